/- Plain mathematics of states: their order, what beats, what is set, parts. -/
import Derived.Test.YtoemefoppkgfaaaEMath2
namespace Go.Proofs.Ytoemefoppkgfaaa
set_option linter.unusedSimpArgs false

/-- a state's parts -/
structure St where
  gen : Int
  beat : Int
  apps : List Ent
deriving DecidableEq

namespace S
def right (s : St) : Prop := 1 ≤ s.gen ∧ s.gen ≤ 1099511627776 ∧ 0 ≤ s.beat ∧ s.beat ≤ 1099511627776 ∧ E.right s.apps
def top (s : St) : Int := max s.beat (E.top s.apps)
def join (a b : St) : St := if b.gen < a.gen then a else if a.gen < b.gen then b else ⟨a.gen, max a.beat b.beat, E.join a.apps b.apps⟩
def over (a b : St) : Prop := join a b = a
def above (s : St) (v : Int) : St := ⟨s.gen, s.beat, E.aboves s.apps v⟩
/-- its table is of rising keys -/
def rise (s : St) : Prop := E.rising s.apps

theorem St.ext {a b : St} (h1 : a.gen = b.gen) (h2 : a.beat = b.beat) (h3 : a.apps = b.apps) : a = b := by
  obtain ⟨g, t, l⟩ := a
  obtain ⟨g', t', l'⟩ := b
  simp only at h1 h2 h3
  rw [h1, h2, h3]
theorem join_gt {a b : St} (h : b.gen < a.gen) : join a b = a := by unfold join; rw [if_pos h]
theorem join_lt {a b : St} (h : a.gen < b.gen) : join a b = b := by unfold join; rw [if_neg (by omega), if_pos h]
theorem join_eq {a b : St} (h : a.gen = b.gen) : join a b = ⟨a.gen, max a.beat b.beat, E.join a.apps b.apps⟩ := by unfold join; rw [if_neg (by omega), if_neg (by omega)]
theorem join_gen (a b : St) : (join a b).gen = max a.gen b.gen := by
  rcases Int.lt_trichotomy a.gen b.gen with h | h | h
  · rw [join_lt h]; omega
  · rw [join_eq h]; show a.gen = _; omega
  · rw [join_gt h]; omega
theorem join_rise {a b : St} (ha : rise a) (hb : rise b) : rise (join a b) := by
  rcases Int.lt_trichotomy a.gen b.gen with h | h | h
  · rw [join_lt h]; exact hb
  · rw [join_eq h]; exact E.join_rising ha _
  · rw [join_gt h]; exact ha
theorem join_right {a b : St} (ha : right a) (hb : right b) : right (join a b) := by
  rcases Int.lt_trichotomy a.gen b.gen with h | h | h
  · rw [join_lt h]; exact hb
  · rw [join_eq h]
    obtain ⟨h1, h2, h3, h4, h5⟩ := ha
    obtain ⟨g1, g2, g3, g4, g5⟩ := hb
    exact ⟨h1, h2, by show 0 ≤ max a.beat b.beat; omega, by show max a.beat b.beat ≤ _; omega, E.join_right h5 g5⟩
  · rw [join_gt h]; exact ha
theorem right_rise {a : St} (h : right a) : rise a := h.2.2.2.2.2
theorem join_comm {a b : St} (ha : rise a) (hb : rise b) : join a b = join b a := by
  rcases Int.lt_trichotomy a.gen b.gen with h | h | h
  · rw [join_lt h, join_gt h]
  · rw [join_eq h, join_eq h.symm, E.join_comm ha hb, h, Int.max_comm]
  · rw [join_gt h, join_lt h]
theorem join_self {a : St} (ha : rise a) : join a a = a := by
  rw [join_eq rfl, E.join_self ha]
  exact St.ext rfl (by show max a.beat a.beat = _; omega) rfl
theorem join_assoc {a b c : St} (ha : rise a) (hb : rise b) (hc : rise c) : join (join a b) c = join a (join b c) := by
  rcases Int.lt_trichotomy a.gen b.gen with h | h | h
  · rw [join_lt h, join_lt (show a.gen < (join b c).gen by rw [join_gen]; omega)]
  · rcases Int.lt_trichotomy b.gen c.gen with k | k | k
    · rw [join_lt k, join_lt (show (join a b).gen < c.gen by rw [join_gen]; omega), join_lt (show a.gen < c.gen by omega)]
    · have e1 : (join a b).gen = c.gen := by rw [join_gen]; omega
      have e2 : a.gen = (join b c).gen := by rw [join_gen]; omega
      rw [join_eq e1, join_eq e2, join_eq h, join_eq k]
      exact St.ext rfl (by show max (max a.beat b.beat) c.beat = max a.beat (max b.beat c.beat); omega) (E.join_assoc ha hb hc)
    · rw [join_gt k, join_gt (show c.gen < (join a b).gen by rw [join_gen]; omega)]
  · rw [join_gt h]
    rcases Int.lt_trichotomy a.gen c.gen with k | k | k
    · rw [join_lt k, join_lt (show b.gen < c.gen by omega), join_lt k]
    · rw [join_lt (show b.gen < c.gen by omega)]
    · rw [join_gt k, join_gt (show (join b c).gen < a.gen by rw [join_gen]; omega)]
theorem over_join {a b : St} (ha : rise a) (hb : rise b) : over (join a b) a := by
  unfold over
  rw [join_comm (join_rise ha hb) ha, ← join_assoc ha ha hb, join_self ha]
theorem over_join2 {a b : St} (ha : rise a) (hb : rise b) : over (join a b) b := by
  unfold over
  rw [join_assoc ha hb hb, join_self hb]
theorem over_least {a b c : St} (ha : rise a) (hb : rise b) (hc : rise c) (h1 : over c a) (h2 : over c b) : over c (join a b) := by
  unfold over at *
  rw [← join_assoc hc ha hb, h1, h2]
theorem over_self {a : St} (ha : rise a) : over a a := join_self ha
theorem over_antisymm {a b : St} (ha : rise a) (hb : rise b) (h1 : over a b) (h2 : over b a) : a = b := by
  unfold over at *
  rw [← h1, join_comm ha hb, h2]
theorem over_gt {a b : St} (h : b.gen < a.gen) : over a b ∧ ¬ over b a := by
  refine ⟨join_gt h, fun h2 => ?_⟩
  unfold over at h2
  rw [join_lt h] at h2
  rw [h2] at h
  omega

/-! ### Tops -/
theorem top_join_ge {a b : St} (ha : rise a) (hb : rise b) : min (top a) (top b) ≤ top (join a b) := by
  rcases Int.lt_trichotomy a.gen b.gen with h | h | h
  · rw [join_lt h]; omega
  · rw [join_eq h]
    have := E.top_join ha hb
    unfold top
    simp only
    omega
  · rw [join_gt h]; omega
theorem top_nonneg (s : St) : 0 ≤ top s := by have := E.top_nonneg s.apps; unfold top; omega
theorem top_right {s : St} (h : right s) : top s ≤ 1099511627776 := by
  have := E.top_le (l := s.apps) (m := 1099511627776) (by omega) (fun x hx => (h.2.2.2.2.1 x hx).2.2.2.1)
  have := h.2.2.2.1
  unfold top
  omega
theorem ver_le_top {s : St} {x : Ent} (hx : x ∈ s.apps) : x.ver ≤ top s := by
  have := E.top_ge hx
  unfold top
  omega

/-! ### What is set, what beats -/
def put (s : St) (x : Ent) : St := ⟨s.gen, s.beat, E.put s.apps x⟩
def beaten (s : St) : St := ⟨s.gen, top s + 1, s.apps⟩
theorem mem_put {l : List Ent} (hl : E.rising l) (x : Ent) : x ∈ E.put l x := E.mem_of_get (k := x.key) (by rw [E.get_put hl, if_pos rfl])
theorem top_put {s : St} (hr : rise s) {x : Ent} (hx : x.ver = top s + 1) : top (put s x) = top s + 1 := by
  have h1 : E.top (E.put s.apps x) ≤ top s + 1 := E.top_le (by have := top_nonneg s; omega) fun y hy => by
    rcases E.put_mem hy with rfl | hy
    · omega
    · have := ver_le_top hy; omega
  have h2 := E.top_ge (mem_put hr x)
  have h3 : s.beat ≤ top s := by unfold top; omega
  show max s.beat (E.top (E.put s.apps x)) = top s + 1
  omega
theorem put_rise {s : St} (hr : rise s) (x : Ent) : rise (put s x) := E.put_rising hr x
theorem over_put {s : St} (hr : rise s) {x : Ent} (hx : x.ver = top s + 1) : over (put s x) s := by
  unfold over
  rw [join_eq (show (put s x).gen = s.gen from rfl)]
  refine St.ext rfl (by show max s.beat s.beat = s.beat; omega) ?_
  show E.join (E.put s.apps x) s.apps = E.put s.apps x
  refine E.rising_ext (E.join_rising (E.put_rising hr x) _) (E.put_rising hr x) fun k => ?_
  rw [E.get_join (E.put_rising hr x) hr, E.get_put hr]
  by_cases hk : x.key = k
  · rw [if_pos hk]
    rcases hg : E.get s.apps k with _ | y
    · rfl
    · have := ver_le_top (E.mem_of_get hg)
      have hab : E.above y x = false := by
        rcases h : E.above y x
        · rfl
        · rcases (E.above_iff y x).1 h with h | ⟨h, _⟩ <;> omega
      simp [E.best, hab]
  · rw [if_neg hk, E.best_self]
theorem not_over_put {s : St} (hr : rise s) {x : Ent} (hx : x.ver = top s + 1) : ¬ over s (put s x) := by
  intro h
  unfold over at h
  rw [join_eq (show s.gen = (put s x).gen from rfl)] at h
  have h1 : E.join s.apps (E.put s.apps x) = s.apps := congrArg St.apps h
  have h2 := E.get_join hr (E.put_rising hr x) x.key
  rw [h1, E.get_put hr, if_pos rfl] at h2
  rcases hg : E.get s.apps x.key with _ | y
  · rw [hg] at h2; simp [E.best] at h2
  · have hv := ver_le_top (E.mem_of_get hg)
    have hab : E.above x y = true := (E.above_iff x y).2 (Or.inl (by omega))
    rw [hg] at h2
    simp [E.best, hab] at h2
    rw [h2] at hv
    omega
theorem put_right {s : St} (h : right s) {x : Ent} (hx : E.may x) : right (put s x) := ⟨h.1, h.2.1, h.2.2.1, h.2.2.2.1, E.put_right h.2.2.2.2 hx⟩
theorem top_beaten (s : St) : top (beaten s) = top s + 1 := by
  have : E.top s.apps ≤ top s := by unfold top; omega
  show max (top s + 1) (E.top s.apps) = _
  omega
theorem over_beaten {s : St} (hr : rise s) : over (beaten s) s := by
  unfold over
  rw [join_eq (show (beaten s).gen = s.gen from rfl)]
  have : s.beat ≤ top s := by unfold top; omega
  exact St.ext rfl (by show max (top s + 1) s.beat = top s + 1; omega) (E.join_self hr)
theorem not_over_beaten {s : St} : ¬ over s (beaten s) := by
  intro h
  unfold over at h
  rw [join_eq (show s.gen = (beaten s).gen from rfl)] at h
  have h1 : max s.beat (top s + 1) = s.beat := congrArg St.beat h
  have : s.beat ≤ top s := by unfold top; omega
  omega
theorem beaten_right {s : St} (h : right s) (ht : top s ≠ 1099511627776) : right (beaten s) := by
  have h1 := top_right h
  have h2 := top_nonneg s
  exact ⟨h.1, h.2.1, by show 0 ≤ top s + 1; omega, by show top s + 1 ≤ _; omega, h.2.2.2.2⟩

/-! ### Parts -/
def lows (l : List Ent) (v : Int) : List Ent := l.filter fun x => decide (x.ver ≤ v)
theorem filter_rising {l : List Ent} (h : E.rising l) (p : Ent → Bool) : E.rising (l.filter p) := by
  induction l with
  | nil => exact h
  | cons x r ih =>
    rw [List.filter_cons]
    split
    · exact ⟨fun y hy => h.1 y (List.mem_filter.1 hy).1, ih h.2⟩
    · exact ih h.2
theorem get_filter {l : List Ent} (h : E.rising l) (p : Ent → Bool) (k : Int) : E.get (l.filter p) k = match E.get l k with | some x => if p x then some x else none | none => none := by
  induction l with
  | nil => rfl
  | cons x r ih =>
    rw [List.filter_cons, E.get_cons]
    by_cases hk : x.key = k
    · rw [if_pos hk]
      by_cases hp : p x
      · rw [if_pos hp, E.get_cons, if_pos hk]; simp [hp]
      · rw [if_neg hp]
        simp only [hp]
        rw [ih h.2, E.get_low (fun y hy => by have := h.1 y hy; omega)]
        rfl
    · rw [if_neg hk]
      by_cases hp : p x
      · rw [if_pos hp, E.get_cons, if_neg hk, ih h.2]
      · rw [if_neg hp, ih h.2]
theorem join_parts {l : List Ent} (h : E.rising l) (v : Int) : E.join (lows l v) (E.aboves l v) = l := by
  unfold lows E.aboves
  refine E.rising_ext (E.join_rising (filter_rising h _) _) h fun k => ?_
  rw [E.get_join (filter_rising h _) (filter_rising h _), get_filter h, get_filter h]
  rcases E.get l k with _ | x
  · rfl
  · by_cases hv : x.ver ≤ v
    · have : ¬ v < x.ver := by omega
      simp [hv, this, E.best]
    · have : v < x.ver := by omega
      simp [hv, this, E.best]
theorem join_part {l : List Ent} (h : E.rising l) (p : Ent → Bool) : E.join l (l.filter p) = l := by
  refine E.rising_ext (E.join_rising h _) h fun k => ?_
  rw [E.get_join h (filter_rising h _), get_filter h]
  rcases E.get l k with _ | x
  · rfl
  · by_cases hp : p x
    · simp [hp, E.best]
    · simp [hp, E.best]
theorem parts_length (l : List Ent) (v : Int) : (lows l v).length + (E.aboves l v).length = l.length := by
  unfold lows E.aboves
  induction l with
  | nil => rfl
  | cons x r ih =>
    rw [List.filter_cons, List.filter_cons]
    by_cases hv : x.ver ≤ v
    · have : ¬ v < x.ver := by omega
      simp [hv, this]; omega
    · have : v < x.ver := by omega
      simp [hv, this]; omega
theorem lows_snoc (l : List Ent) (x : Ent) (v : Int) : lows (l ++ [x]) v = if x.ver ≤ v then lows l v ++ [x] else lows l v := by
  unfold lows
  rw [List.filter_append]
  by_cases h : x.ver ≤ v <;> simp [h]
end S
end Go.Proofs.Ytoemefoppkgfaaa
