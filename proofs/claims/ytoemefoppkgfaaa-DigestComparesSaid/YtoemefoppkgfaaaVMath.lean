/- Plain mathematics of views: states by endpoints, put, joined, without. -/
import Derived.Test.YtoemefoppkgfaaaTMath
namespace Go.Proofs.Ytoemefoppkgfaaa
set_option linter.unusedSimpArgs false

/-- an endpoint's state -/
structure Nm where
  node : Int
  st : St
deriving DecidableEq

namespace V
def rising : List Nm → Prop
  | [] => True
  | x :: r => (∀ y ∈ r, x.node < y.node) ∧ rising r
/-- every state's table is of rising keys -/
def fine (l : List Nm) : Prop := ∀ x ∈ l, S.rise x.st
def may (x : Nm) : Prop := 0 ≤ x.node ∧ x.node < 8 ∧ S.right x.st
def right (l : List Nm) : Prop := (∀ x ∈ l, may x) ∧ rising l
def get (l : List Nm) (k : Int) : Option St := (l.find? fun x => x.node == k).map Nm.st
def without (l : List Nm) (k : Int) : List Nm := l.filter fun x => !(x.node == k)
def put : List Nm → Int → St → List Nm
  | [], k, s => [⟨k, s⟩]
  | y :: r, k, s => if y.node < k then y :: put r k s else if y.node = k then ⟨k, s⟩ :: r else ⟨k, s⟩ :: y :: r
def comb : Option St → Option St → Option St
  | none, y => y
  | some x, none => some x
  | some x, some y => some (S.join x y)
def step (l : List Nm) (y : Nm) : List Nm :=
  match get l y.node with
  | none => put l y.node y.st
  | some x => put l y.node (S.join x y.st)
def join (a b : List Nm) : List Nm := b.foldl step a
def over (a b : List Nm) : Prop := join a b = a
def nodes (l : List Nm) : List Int := l.map Nm.node

theorem get_nil (k : Int) : get [] k = none := rfl
theorem get_cons (x : Nm) (r : List Nm) (k : Int) : get (x :: r) k = if x.node = k then some x.st else get r k := by
  unfold get
  rw [List.find?_cons]
  by_cases h : x.node = k
  · simp [h]
  · have hb : (x.node == k) = false := beq_eq_false_iff_ne.2 h
    rw [hb, if_neg h]
theorem get_mem {l : List Nm} {k : Int} {s : St} (h : get l k = some s) : ⟨k, s⟩ ∈ l := by
  induction l with
  | nil => cases h
  | cons x r ih =>
    rw [get_cons] at h
    by_cases hk : x.node = k
    · rw [if_pos hk] at h
      injection h with h
      obtain ⟨n, t⟩ := x
      simp only at hk h
      subst hk h
      exact List.mem_cons_self ..
    · rw [if_neg hk] at h
      exact List.mem_cons_of_mem _ (ih h)
theorem get_low {l : List Nm} {k : Int} (h : ∀ y ∈ l, k < y.node) : get l k = none := by
  unfold get
  rw [List.find?_eq_none.2]
  · rfl
  · intro y hy
    have := h y hy
    simp; omega
theorem get_of_mem {l : List Nm} (hr : rising l) {x : Nm} (hx : x ∈ l) : get l x.node = some x.st := by
  induction l with
  | nil => cases hx
  | cons y r ih =>
    rw [get_cons]
    rcases List.mem_cons.1 hx with rfl | hx
    · rw [if_pos rfl]
    · have := hr.1 x hx
      rw [if_neg (by omega)]
      exact ih hr.2 hx
theorem rising_ext : ∀ {l m : List Nm}, rising l → rising m → (∀ k, get l k = get m k) → l = m := by
  intro l
  induction l with
  | nil =>
    intro m _ hm h
    cases m with
    | nil => rfl
    | cons y s =>
      have := h y.node
      rw [get_cons, if_pos rfl] at this
      cases this
  | cons x r ih =>
    intro m hl hm h
    cases m with
    | nil =>
      have := h x.node
      rw [get_cons, if_pos rfl] at this
      cases this
    | cons y s =>
      have h1 := h x.node
      have h2 := h y.node
      rw [get_cons, get_cons, if_pos rfl] at h1
      rw [get_cons, get_cons, if_pos rfl] at h2
      have hxy : x = y := by
        by_cases hk : y.node = x.node
        · rw [if_pos hk] at h1
          injection h1 with h1
          obtain ⟨a, b⟩ := x
          obtain ⟨c, d⟩ := y
          simp only at hk h1
          rw [hk, h1]
        · rw [if_neg hk] at h1
          rw [if_neg (fun e => hk e.symm)] at h2
          have a1 := hm.1 _ (get_mem h1.symm)
          have a2 := hl.1 _ (get_mem h2)
          simp only at a1 a2
          omega
      subst hxy
      rw [ih hl.2 hm.2]
      intro k
      have := h k
      rw [get_cons, get_cons] at this
      by_cases hk : x.node = k
      · subst hk
        rw [get_low hl.1, get_low hm.1]
      · rwa [if_neg hk, if_neg hk] at this
theorem put_mem {l : List Nm} {k : Int} {s : St} {y : Nm} (h : y ∈ put l k s) : y = ⟨k, s⟩ ∨ y ∈ l := by
  induction l with
  | nil => simp [put] at h; exact Or.inl h
  | cons z r ih =>
    simp only [put] at h
    split at h
    · rcases List.mem_cons.1 h with rfl | h
      · simp
      · rcases ih h with h | h
        · exact Or.inl h
        · exact Or.inr (List.mem_cons_of_mem _ h)
    · split at h
      · rcases List.mem_cons.1 h with rfl | h
        · exact Or.inl rfl
        · exact Or.inr (List.mem_cons_of_mem _ h)
      · rcases List.mem_cons.1 h with rfl | h
        · exact Or.inl rfl
        · exact Or.inr h
theorem put_rising {l : List Nm} (h : rising l) (k : Int) (s : St) : rising (put l k s) := by
  induction l with
  | nil => simp [put, rising]
  | cons z r ih =>
    simp only [put]
    split
    · rename_i hlt
      refine ⟨fun y hy => ?_, ih h.2⟩
      rcases put_mem hy with rfl | hy
      · exact hlt
      · exact h.1 y hy
    · split
      · rename_i _ he
        exact ⟨fun y hy => by have := h.1 y hy; simp only; omega, h.2⟩
      · refine ⟨fun y hy => ?_, h⟩
        rcases List.mem_cons.1 hy with rfl | hy
        · simp only; omega
        · have := h.1 y hy; simp only; omega
theorem put_fine {l : List Nm} (h : fine l) {k : Int} {s : St} (hs : S.rise s) : fine (put l k s) := fun y hy => by
  rcases put_mem hy with rfl | hy
  · exact hs
  · exact h y hy
theorem put_right {l : List Nm} (h : right l) {k : Int} {s : St} (hs : may ⟨k, s⟩) : right (put l k s) := by
  refine ⟨fun y hy => ?_, put_rising h.2 k s⟩
  rcases put_mem hy with rfl | hy
  · exact hs
  · exact h.1 y hy
theorem get_put {l : List Nm} (h : rising l) (n : Int) (s : St) (k : Int) : get (put l n s) k = if n = k then some s else get l k := by
  induction l with
  | nil => simp only [put]; rw [get_cons, get_nil]
  | cons z r ih =>
    simp only [put]
    split
    · rename_i hlt
      rw [get_cons, get_cons, ih h.2]
      by_cases hz : z.node = k
      · rw [if_pos hz, if_pos hz, if_neg (by omega)]
      · rw [if_neg hz, if_neg hz]
    · split
      · rename_i _ he
        rw [get_cons, get_cons]
        by_cases hx : n = k
        · rw [if_pos hx, if_pos hx]
        · rw [if_neg hx, if_neg hx, if_neg (by omega)]
      · rw [get_cons]
theorem right_fine {l : List Nm} (h : right l) : fine l := fun x hx => S.right_rise (h.1 x hx).2.2
theorem get_fine {l : List Nm} (h : fine l) {k : Int} {s : St} (hg : get l k = some s) : S.rise s := h _ (get_mem hg)
theorem step_rising {l : List Nm} (h : rising l) (y : Nm) : rising (step l y) := by
  unfold step
  split <;> exact put_rising h _ _
theorem step_fine {l : List Nm} (h : fine l) {y : Nm} (hy : S.rise y.st) : fine (step l y) := by
  unfold step
  split
  · exact put_fine h hy
  · rename_i x hx; exact put_fine h (S.join_rise (get_fine h hx) hy)
theorem step_right {l : List Nm} (h : right l) {y : Nm} (hy : may y) : right (step l y) := by
  unfold step
  split
  · exact put_right h hy
  · rename_i x hx
    have := h.1 _ (get_mem hx)
    exact put_right h ⟨hy.1, hy.2.1, S.join_right this.2.2 hy.2.2⟩
theorem get_step {l : List Nm} (h : rising l) (y : Nm) (k : Int) : get (step l y) k = if y.node = k then comb (get l k) (some y.st) else get l k := by
  unfold step
  by_cases hk : y.node = k
  · subst hk
    rw [if_pos rfl]
    rcases hg : get l y.node with _ | x
    · dsimp only
      rw [get_put h, if_pos rfl]; rfl
    · dsimp only [comb]
      rw [get_put h, if_pos rfl]
  · rw [if_neg hk]
    split <;> rw [get_put h, if_neg hk]
theorem comb_none (x : Option St) : comb x none = x := by cases x <;> rfl
theorem join_rising {a : List Nm} (ha : rising a) (b : List Nm) : rising (join a b) := by
  unfold join
  induction b generalizing a with
  | nil => exact ha
  | cons y s ih => exact ih (step_rising ha y)
theorem join_fine {a b : List Nm} (ha : fine a) (hb : fine b) : fine (join a b) := by
  unfold join
  induction b generalizing a with
  | nil => exact ha
  | cons y s ih => exact ih (step_fine ha (hb y (by simp))) (fun z hz => hb z (by simp [hz]))
theorem join_right {a b : List Nm} (ha : right a) (hb : right b) : right (join a b) := by
  replace hb := hb.1
  unfold join
  induction b generalizing a with
  | nil => exact ha
  | cons y s ih => exact ih (step_right ha (hb y (by simp))) (fun z hz => hb z (by simp [hz]))
theorem get_join {a b : List Nm} (ha : rising a) (hb : rising b) (k : Int) : get (join a b) k = comb (get a k) (get b k) := by
  unfold join
  induction b generalizing a with
  | nil => rw [get_nil, comb_none]; rfl
  | cons y s ih =>
    rw [List.foldl_cons, ih (step_rising ha y) hb.2, get_step ha, get_cons]
    by_cases hk : y.node = k
    · subst hk
      rw [if_pos rfl, if_pos rfl, get_low hb.1, comb_none]
    · rw [if_neg hk, if_neg hk]

/-! ### The lattice -/
def ok (x : Option St) : Prop := ∀ s, x = some s → S.rise s
theorem ok_get {l : List Nm} (h : fine l) (k : Int) : ok (get l k) := fun _ hs => get_fine h hs
theorem comb_comm {x y : Option St} (hx : ok x) (hy : ok y) : comb x y = comb y x := by
  rcases x with _ | x
  · rw [comb_none]; rfl
  · rcases y with _ | y
    · rfl
    · simp only [comb]; rw [S.join_comm (hx x rfl) (hy y rfl)]
theorem comb_self {x : Option St} (hx : ok x) : comb x x = x := by
  rcases x with _ | x
  · rfl
  · simp only [comb]; rw [S.join_self (hx x rfl)]
theorem comb_assoc {x y z : Option St} (hx : ok x) (hy : ok y) (hz : ok z) : comb (comb x y) z = comb x (comb y z) := by
  rcases x with _ | x
  · rfl
  · rcases y with _ | y
    · rfl
    · rcases z with _ | z
      · rw [comb_none, comb_none]
      · simp only [comb]; rw [S.join_assoc (hx x rfl) (hy y rfl) (hz z rfl)]
/-- a view that may be reckoned with: of rising endpoints, each state's table of rising keys -/
def good (l : List Nm) : Prop := rising l ∧ fine l
theorem right_good {l : List Nm} (h : right l) : good l := ⟨h.2, right_fine h⟩
theorem join_good {a b : List Nm} (ha : good a) (hb : good b) : good (join a b) := ⟨join_rising ha.1 b, join_fine ha.2 hb.2⟩
theorem join_comm {a b : List Nm} (ha : good a) (hb : good b) : join a b = join b a :=
  rising_ext (join_rising ha.1 b) (join_rising hb.1 a) fun k => by rw [get_join ha.1 hb.1, get_join hb.1 ha.1, comb_comm (ok_get ha.2 k) (ok_get hb.2 k)]
theorem join_assoc {a b c : List Nm} (ha : good a) (hb : good b) (hc : good c) : join (join a b) c = join a (join b c) :=
  rising_ext (join_rising (join_rising ha.1 b) c) (join_rising ha.1 _) fun k => by
    rw [get_join (join_rising ha.1 b) hc.1, get_join ha.1 hb.1, get_join ha.1 (join_rising hb.1 c), get_join hb.1 hc.1, comb_assoc (ok_get ha.2 k) (ok_get hb.2 k) (ok_get hc.2 k)]
theorem join_self {a : List Nm} (ha : good a) : join a a = a :=
  rising_ext (join_rising ha.1 a) ha.1 fun k => by rw [get_join ha.1 ha.1, comb_self (ok_get ha.2 k)]
theorem over_join {a b : List Nm} (ha : good a) (hb : good b) : over (join a b) a := by
  unfold over
  rw [join_comm (join_good ha hb) ha, ← join_assoc ha ha hb, join_self ha]
theorem over_join2 {a b : List Nm} (ha : good a) (hb : good b) : over (join a b) b := by
  unfold over
  rw [join_assoc ha hb hb, join_self hb]
theorem over_least {a b c : List Nm} (ha : good a) (hb : good b) (hc : good c) (h1 : over c a) (h2 : over c b) : over c (join a b) := by
  unfold over at *
  rw [← join_assoc hc ha hb, h1, h2]
theorem over_self {a : List Nm} (ha : good a) : over a a := join_self ha
theorem over_nil (a : List Nm) : over a [] := rfl
theorem nil_over {b : List Nm} (hb : good b) (h : over [] b) : b = [] := by
  unfold over at h
  rw [join_comm (show good [] from ⟨(trivial : rising []), fun x hx => by cases hx⟩) hb] at h
  exact h
theorem over_antisymm {a b : List Nm} (ha : good a) (hb : good b) (h1 : over a b) (h2 : over b a) : a = b := by
  unfold over at *
  rw [← h1, join_comm ha hb, h2]

/-! ### Without -/
theorem without_rising {l : List Nm} (h : rising l) (k : Int) : rising (without l k) := by
  unfold without
  induction l with
  | nil => exact h
  | cons x r ih =>
    rw [List.filter_cons]
    split
    · exact ⟨fun y hy => h.1 y (List.mem_filter.1 hy).1, ih h.2⟩
    · exact ih h.2
theorem without_right {l : List Nm} (h : right l) (k : Int) : right (without l k) := ⟨fun x hx => h.1 x (List.mem_filter.1 hx).1, without_rising h.2 k⟩
theorem get_without (l : List Nm) (n k : Int) : get (without l n) k = if n = k then none else get l k := by
  induction l with
  | nil => simp [without, get]
  | cons x r ih =>
    unfold without at *
    rw [List.filter_cons]
    by_cases hn : x.node = n
    · have : (!(x.node == n)) = false := by simp [hn]
      rw [this]
      simp only [Bool.false_eq_true, if_false]
      rw [ih, get_cons]
      by_cases hk : n = k
      · rw [if_pos hk, if_pos hk]
      · rw [if_neg hk, if_neg hk, if_neg (by omega)]
    · have : (!(x.node == n)) = true := by simp [hn]
      rw [this]
      simp only [if_true]
      rw [get_cons, get_cons, ih]
      by_cases hk : x.node = k
      · rw [if_pos hk, if_pos hk, if_neg (by omega)]
      · rw [if_neg hk, if_neg hk]
theorem without_none {l : List Nm} {k : Int} (h : get l k = none) : without l k = l := by
  unfold without
  rw [List.filter_eq_self]
  intro x hx
  unfold get at h
  rw [Option.map_eq_none_iff, List.find?_eq_none] at h
  have := h x hx
  simpa using this
theorem over_without {l : List Nm} (h : good l) (k : Int) : over l (without l k) := by
  have hw := without_rising h.1 k
  refine rising_ext (join_rising h.1 _) h.1 fun j => ?_
  rw [get_join h.1 hw, get_without]
  by_cases hk : k = j
  · rw [if_pos hk, comb_none]
  · rw [if_neg hk, comb_self (ok_get h.2 j)]
theorem put_without {l : List Nm} (h : rising l) {k : Int} {s : St} (hg : get l k = some s) : put (without l k) k s = l :=
  rising_ext (put_rising (without_rising h k) k s) h fun j => by
    rw [get_put (without_rising h k), get_without]
    by_cases hk : k = j
    · rw [if_pos hk, ← hk, hg]
    · rw [if_neg hk, if_neg hk]
theorem join_without {l : List Nm} (h : rising l) {k : Int} {s : St} (hg : get l k = some s) : join (without l k) [⟨k, s⟩] = l := by
  show step (without l k) ⟨k, s⟩ = l
  unfold step
  rw [get_without, if_pos rfl]
  exact put_without h hg
theorem without_length {l : List Nm} (h : rising l) {k : Int} {s : St} (hg : get l k = some s) : (without l k).length + 1 = l.length := by
  induction l with
  | nil => cases hg
  | cons x r ih =>
    unfold without at *
    rw [List.filter_cons]
    rw [get_cons] at hg
    by_cases hn : x.node = k
    · have : (!(x.node == k)) = false := by simp [hn]
      rw [this]
      simp only [Bool.false_eq_true, if_false]
      have hw := without_none (l := r) (k := k) (get_low (fun y hy => by have := h.1 y hy; omega))
      unfold without at hw
      rw [hw]; rfl
    · have : (!(x.node == k)) = true := by simp [hn]
      rw [this]
      simp only [if_true, List.length_cons]
      rw [if_neg hn] at hg
      rw [ih h.2 hg]
/-- the reference's way: without, and then ahead of the first greater one -/
theorem put_len (l : List Nm) (k : Int) (s : St) : (put l k s).length ≤ l.length + 1 := by
  induction l with
  | nil => simp [put]
  | cons z r ih =>
    simp only [put]
    split
    · simp only [List.length_cons]; omega
    · split <;> simp only [List.length_cons] <;> omega
theorem step_len (l : List Nm) (x : Nm) : (step l x).length ≤ l.length + 1 := by
  unfold step
  split <;> exact put_len _ _ _
theorem join_len (a b : List Nm) : (join a b).length ≤ a.length + b.length := by
  unfold join
  induction b generalizing a with
  | nil => simp
  | cons y s ih =>
    have h1 := ih (step a y)
    have h2 := step_len a y
    simp only [List.foldl_cons, List.length_cons]
    omega
theorem join_snoc (a b : List Nm) (y : Nm) : join a (b ++ [y]) = step (join a b) y := by simp [join]
end V
end Go.Proofs.Ytoemefoppkgfaaa
