/- Disks, plainly: sectors as lists of 64 bytes. -/
import Derived.Test.YtillnjhmdgmgeaaDoorWords
namespace Go.Proofs.YtillnjhmdgmgeaaDoor
set_option linter.unusedVariables false
set_option linter.unusedSimpArgs false
open Go.RowKit
/-- a disk -/
structure Dk where
  secs : List (List UInt8)
  fuse : Int
  down : Bool
deriving DecidableEq
namespace K
/-- every sector has its 64 bytes -/
def wf (d : Dk) : Prop := ∀ s ∈ d.secs, s.length = 64
def zero : List UInt8 := List.replicate 64 0
def right (d : Dk) : Prop := d.secs.length ≤ 64 ∧ -1 ≤ d.fuse
instance (d : Dk) : Decidable (right d) := inferInstanceAs (Decidable (_ ∧ _))
/-- what stands against asking for sector 'at': 0 nothing, 1 the argument, 9 that it is down -/
def asked (d : Dk) (i : Int) : Int := if ¬ right d then 1 else if d.down then 9 else if i < 0 ∨ (d.secs.length : Int) ≤ i then 1 else 0
def get (d : Dk) (i : Int) : List UInt8 := if asked d i = 0 then d.secs.getD i.toNat [] else zero
/-- a sector of which the first k bytes are written, zeros behind -/
def torn (b : List UInt8) (k : Nat) : List UInt8 := b.take k ++ List.replicate (64 - k) 0
def put (d : Dk) (i : Int) (b : List UInt8) : Dk × Int :=
  if asked d i ≠ 0 then (d, asked d i)
  else if d.fuse = -1 then (⟨d.secs.set i.toNat b, -1, d.down⟩, 0)
  else if d.fuse < 64 then (⟨d.secs.set i.toNat (torn b d.fuse.toNat), -1, true⟩, 9)
  else (⟨d.secs.set i.toNat b, d.fuse - 64, d.down⟩, 0)
def arm (d : Dk) (n : Int) : Dk × Int :=
  if ¬ right d then (d, 1) else if d.down then (d, 9) else if n < -1 then (d, 1) else (⟨d.secs, n, d.down⟩, 0)
def wake (d : Dk) : Dk × Int := if ¬ right d then (d, 1) else (⟨d.secs, -1, false⟩, 0)
def new (n : Int) : Dk × Int := if n < 1 ∨ 64 < n then (⟨[], 0, false⟩, 1) else (⟨List.replicate n.toNat zero, -1, false⟩, 0)
theorem torn_len {b : List UInt8} (h : b.length = 64) {k : Nat} (hk : k ≤ 64) : (torn b k).length = 64 := by simp [torn, h]; omega
theorem torn_all {b : List UInt8} (h : b.length = 64) : torn b 64 = b := by simp [torn, List.take_of_length_le (Nat.le_of_eq h)]
theorem torn_none (b : List UInt8) : torn b 0 = zero := by simp [torn, zero]
theorem torn_set {b : List UInt8} (h : b.length = 64) {k : Nat} (hk : k < 64) {x : UInt8} (hx : b[k]? = some x) : (torn b k).set k x = torn b (k + 1) := by
  have hl : (b.take k).length = k := by simp; omega
  obtain ⟨m, hm⟩ : ∃ m, 64 - k = m + 1 := ⟨63 - k, by omega⟩
  unfold torn
  rw [List.set_append_right k x (by omega), hl, Nat.sub_self, hm, List.replicate_succ, List.set_cons_zero, show 64 - (k + 1) = m by omega, List.take_add_one, hx]
  simp
theorem wf_set {d : Dk} (h : wf d) {k : Nat} {s : List UInt8} (hs : s.length = 64) (f : Int) (o : Bool) : wf ⟨d.secs.set k s, f, o⟩ := fun y hy => by
  rcases List.mem_or_eq_of_mem_set hy with hy | rfl
  · exact h y hy
  · exact hs
theorem put_wf {d : Dk} (h : wf d) {i : Int} {b : List UInt8} (hb : b.length = 64) : wf (put d i b).1 := by
  unfold put
  split
  · exact h
  · split
    · exact wf_set h hb _ _
    · split
      · exact wf_set h (torn_len hb (by omega)) _ _
      · exact wf_set h hb _ _
theorem new_wf (n : Int) : wf (new n).1 := by
  unfold new
  split
  · exact fun s hs => by simp at hs
  · exact fun s hs => by rw [(List.mem_replicate.1 hs).2]; simp [zero]
theorem asked_right {d : Dk} {i : Int} (h : asked d i = 0) : right d ∧ d.down = false ∧ 0 ≤ i ∧ i.toNat < d.secs.length := by
  unfold asked at h
  split at h
  · simp at h
  · rename_i h1
    split at h
    · simp at h
    · rename_i h2
      split at h
      · simp at h
      · exact ⟨Classical.not_not.1 h1, by simpa using h2, by omega, by omega⟩
end K
/-- the cells of sectors, one behind the other -/
def S (l : List (List UInt8)) : List Value := l.flatMap U
theorem S_cons (s : List UInt8) (l : List (List UInt8)) : S (s :: l) = U s ++ S l := rfl
theorem S_length : ∀ (l : List (List UInt8)), (∀ s ∈ l, s.length = 64) → (S l).length = l.length * 64
  | [], _ => rfl
  | s :: l, h => by
    rw [S_cons, List.length_append, S_length l (fun y hy => h y (List.mem_cons_of_mem _ hy)), U_length, h s List.mem_cons_self, List.length_cons]
    omega
theorem S_at : ∀ (l : List (List UInt8)), (∀ s ∈ l, s.length = 64) → ∀ {k : Nat} {s : List UInt8}, l[k]? = some s → ∀ j, j < 64 → (S l)[k * 64 + j]? = (U s)[j]?
  | [], _, k, s, h, _, _ => by simp at h
  | t :: l, hl, 0, s, h, j, hj => by
    obtain rfl : t = s := by simpa using h
    rw [S_cons, Nat.zero_mul, Nat.zero_add, List.getElem?_append_left (by rw [U_length, hl t List.mem_cons_self]; exact hj)]
  | t :: l, hl, k + 1, s, h, j, hj => by
    have ht : (U t).length = 64 := by rw [U_length, hl t List.mem_cons_self]
    rw [S_cons, List.getElem?_append_right (by omega), ht, show (k + 1) * 64 + j - 64 = k * 64 + j by omega]
    exact S_at l (fun y hy => hl y (List.mem_cons_of_mem _ hy)) (by simpa using h) j hj
theorem Rd.atS {w : World} {B n : Nat} {A : Option Addr} {l : List (List UInt8)} (h : Rd w B 64 A n (S l)) (hl : ∀ s ∈ l, s.length = 64) (hn : l.length = n) {k : Nat} (hk : k < n) :
    ∃ b o s, A = some ⟨b, o, none⟩ ∧ b < B ∧ l[k]? = some s ∧ s.length = 64 ∧ ∀ j v, (U s)[j]? = some v → w.cell? ⟨b, o + k * 64 + j, none⟩ = some v := by
  obtain ⟨b, o, e, hb, hc⟩ := h.2 (by omega)
  obtain ⟨s, hs⟩ : ∃ s, l[k]? = some s := ⟨_, List.getElem?_eq_getElem (by omega)⟩
  have h64 := hl s (List.mem_of_getElem? hs)
  refine ⟨b, o, s, e, hb, hs, h64, fun j v hv => ?_⟩
  have hj : j < 64 := by
    have := (List.getElem?_eq_some_iff.1 hv).1
    rwa [U_length, h64] at this
  rw [Nat.add_assoc, hc _ (by rw [S_length l hl]; omega), S_at l hl hs j hj, hv]
theorem S_inj : ∀ {l l' : List (List UInt8)}, l = l' → S l = S l' := fun h => by rw [h]
end Go.Proofs.YtillnjhmdgmgeaaDoor
