/- Sectors' cells, changed: a whole sector, a byte of one. -/
import Derived.Test.YtijpmjedohjikaaKMem
import Derived.Deep.MidRow
import Derived.Laws.OwnMore
import Derived.Laws.IdiomCopy
namespace Go.Proofs.Ytijpmjedohjikaa
set_option linter.unusedVariables false
set_option linter.unusedSimpArgs false
open Go.RowKit
/-- values laid over a list from a place on -/
def laid : List Value → Nat → List Value → List Value
  | xs, _, [] => xs
  | xs, o, v :: vs => laid (xs.set o v) (o + 1) vs
theorem laid_length : ∀ (vs xs : List Value) (o : Nat), (laid xs o vs).length = xs.length
  | [], _, _ => rfl
  | v :: vs, xs, o => by unfold laid; rw [laid_length vs, List.length_set]
theorem laid_out : ∀ (vs xs : List Value) (o j : Nat), j < o ∨ o + vs.length ≤ j → (laid xs o vs)[j]? = xs[j]?
  | [], _, _, _, _ => rfl
  | v :: vs, xs, o, j, h => by
    simp only [List.length_cons] at h
    unfold laid
    rw [laid_out vs _ (o + 1) j (by omega), List.getElem?_set_ne (by omega)]
theorem laid_in : ∀ (vs xs : List Value) (o j : Nat), o + vs.length ≤ xs.length → j < vs.length → (laid xs o vs)[o + j]? = vs[j]?
  | [], _, _, _, _, h => by simp at h
  | v :: vs, xs, o, 0, h, hj => by
    simp only [List.length_cons] at h
    unfold laid
    rw [laid_out vs _ (o + 1) (o + 0) (by omega)]
    simp [show o < xs.length by omega]
  | v :: vs, xs, o, j + 1, h, hj => by
    simp only [List.length_cons] at h hj
    unfold laid
    have := laid_in vs (xs.set o v) (o + 1) j (by rw [List.length_set]; omega) (by omega)
    rw [show o + (j + 1) = o + 1 + j by omega, this]
    simp
theorem S_ext {m : Nat} {X Y : List Value} (hX : X.length = m * 64) (hY : Y.length = m * 64) (h : ∀ q r, q < m → r < 64 → X[q * 64 + r]? = Y[q * 64 + r]?) : X = Y := by
  refine List.ext_getElem? fun j => ?_
  by_cases hj : j < m * 64
  · have := h (j / 64) (j % 64) (by omega) (by omega)
    rwa [show j / 64 * 64 + j % 64 = j by omega] at this
  · rw [List.getElem?_eq_none (by omega), List.getElem?_eq_none (by omega)]
theorem set_all {l : List (List UInt8)} (hl : ∀ s ∈ l, s.length = 64) {k : Nat} {s : List UInt8} (hs : s.length = 64) : ∀ y ∈ l.set k s, y.length = 64 := fun y hy => by
  rcases List.mem_or_eq_of_mem_set hy with hy | rfl
  · exact hl y hy
  · exact hs
theorem S_set_get {l : List (List UInt8)} (hl : ∀ s ∈ l, s.length = 64) {k : Nat} {s : List UInt8} (hs : s.length = 64) (hk : k < l.length) {q r : Nat} (hq : q < l.length) (hr : r < 64) :
    (S (l.set k s))[q * 64 + r]? = if q = k then (U s)[r]? else (S l)[q * 64 + r]? := by
  by_cases e : q = k
  · subst e
    rw [if_pos rfl]
    exact S_at _ (set_all hl hs) (by simp [hk]) r hr
  · rw [if_neg e]
    obtain ⟨t, ht⟩ : ∃ t, l[q]? = some t := ⟨_, List.getElem?_eq_getElem hq⟩
    rw [S_at _ (set_all hl hs) (s := t) (by rw [List.getElem?_set_ne (by omega)]; exact ht) r hr, S_at l hl ht r hr]
/-- a whole sector -/
theorem S_laid {l : List (List UInt8)} (hl : ∀ s ∈ l, s.length = 64) {k : Nat} {s : List UInt8} (hs : s.length = 64) (hk : k < l.length) : laid (S l) (k * 64) (U s) = S (l.set k s) := by
  have hU : (U s).length = 64 := by rw [U_length, hs]
  have hS := S_length l hl
  refine S_ext (m := l.length) (by rw [laid_length, hS]) (by rw [S_length _ (set_all hl hs), List.length_set]) fun q r hq hr => ?_
  rw [S_set_get hl hs hk hq hr]
  by_cases e : q = k
  · subst e
    rw [if_pos rfl, laid_in _ _ _ _ (by omega) (by omega)]
  · rw [if_neg e, laid_out _ _ _ _ (by omega)]
/-- a byte of a sector -/
theorem S_byte {l : List (List UInt8)} (hl : ∀ s ∈ l, s.length = 64) {k j : Nat} {s : List UInt8} (hs : l[k]? = some s) (hj : j < 64) (x : UInt8) :
    (S l).set (k * 64 + j) (.int .u8 (x.toNat : Int)) = S (l.set k (s.set j x)) := by
  have h64 := hl s (List.mem_of_getElem? hs)
  have hk : k < l.length := (List.getElem?_eq_some_iff.1 hs).1
  have h64' : (s.set j x).length = 64 := by rw [List.length_set, h64]
  have hS := S_length l hl
  refine S_ext (m := l.length) (by rw [List.length_set, hS]) (by rw [S_length _ (set_all hl h64'), List.length_set]) fun q r hq hr => ?_
  rw [S_set_get hl h64' hk hq hr]
  by_cases e : q = k
  · subst e
    rw [if_pos rfl, U_get]
    by_cases e2 : r = j
    · subst e2
      rw [List.getElem?_set_self (by omega), List.getElem?_set_self (by omega)]
      rfl
    · rw [List.getElem?_set_ne (by omega), List.getElem?_set_ne (by omega), S_at l hl hs r hr, U_get]
  · rw [if_neg e, List.getElem?_set_ne (by omega)]
theorem own_laid {base size n cap g : Nat} {e : TypeId} : ∀ (vs xs : List Value) (o : Nat) (w : World), w.ownsRow base e size (.slice (some ⟨g, 0, none⟩) n cap) n xs → (w.setCells g o vs).ownsRow base e size (.slice (some ⟨g, 0, none⟩) n cap) n (laid xs o vs)
  | [], _, _, _, h => h
  | v :: vs, xs, o, w, h => own_laid vs _ (o + 1) _ (h.stored o v).1
/-- a whole sector stored into one's own sectors -/
theorem own_sector {base n cap g : Nat} {e : TypeId} {w : World} {l : List (List UInt8)} (h : w.ownsRow base e 64 (.slice (some ⟨g, 0, none⟩) n cap) n (S l)) (hl : ∀ s ∈ l, s.length = 64) {k : Nat} {s : List UInt8} (hs : s.length = 64) (hk : k < l.length) :
    (w.setCells g (k * 64) (U s)).ownsRow base e 64 (.slice (some ⟨g, 0, none⟩) n cap) n (S (l.set k s)) := by
  rw [← S_laid hl hs hk]
  exact own_laid _ _ _ _ h
theorem own_byte {base n cap g : Nat} {e : TypeId} {w : World} {l : List (List UInt8)} (h : w.ownsRow base e 64 (.slice (some ⟨g, 0, none⟩) n cap) n (S l)) (hl : ∀ s ∈ l, s.length = 64) {k j : Nat} {s : List UInt8} (hs : l[k]? = some s) (hj : j < 64) (x : UInt8) :
    (w.setCell ⟨g, k * 64 + j, none⟩ (.int .u8 (x.toNat : Int))).ownsRow base e 64 (.slice (some ⟨g, 0, none⟩) n cap) n (S (l.set k (s.set j x))) := by
  rw [← S_byte hl hs hj x]
  exact (h.stored _ _).1
theorem own_there {base n cap g : Nat} {e : TypeId} {w : World} {l : List (List UInt8)} (h : w.ownsRow base e 64 (.slice (some ⟨g, 0, none⟩) n cap) n (S l)) {k : Nat} (hk : k < n) : w.there g (k * 64) 64 := fun j hj => by
  have hl := h.1
  refine ⟨?_, h.frozenAt _⟩
  rw [h.cellAt _ (by omega), List.getElem?_eq_getElem (by omega)]
  rfl
theorem own_where {base size n c : Nat} {e : TypeId} {w : World} {A : Option Addr} {xs : List Value} (h : w.ownsRow base e size (.slice A n c) n xs) (hn : 0 < n) : ∃ g, A = some ⟨g, 0, none⟩ ∧ base ≤ g ∧ g < w.heap.size := by
  rcases h.2 with ⟨h', h0, _⟩ | ⟨g, cap, cur, hv, hb, hg, _⟩
  · omega
  · simp only [Value.slice.injEq] at hv
    refine ⟨g, hv.1, hb, ?_⟩
    have := (Array.getElem?_eq_some_iff.1 hg).1
    exact this
theorem Box.setCells {w : World} {b : Nat} {T : TypeId} : ∀ (vs : List Value) (o : Nat) (w : World) (cs : List Value), Box w b T cs.toArray → Box (w.setCells b o vs) b T (laid cs o vs).toArray
  | [], _, _, _, h => h
  | v :: vs, o, w, cs, h => by
    have h1 := h.set o v
    rw [List.setIfInBounds_toArray] at h1
    exact Box.setCells (w := w) vs (o + 1) _ (cs.set o v) h1
namespace K
theorem put_no {d : Dk} {i : Int} {b : List UInt8} (h : asked d i ≠ 0) : put d i b = (d, asked d i) := by unfold put; rw [if_pos h]
theorem put_yes {d : Dk} {i : Int} {b : List UInt8} (h : asked d i = 0) (hf : d.fuse = -1 ∨ 64 ≤ d.fuse) : put d i b = (⟨d.secs.set i.toNat b, if d.fuse = -1 then -1 else d.fuse - 64, d.down⟩, 0) := by
  unfold put
  rw [if_neg (by rw [h]; simp)]
  by_cases e : d.fuse = -1
  · rw [if_pos e, if_pos e]
  · rw [if_neg e, if_neg e, if_neg (by omega)]
theorem put_torn {d : Dk} {i : Int} {b : List UInt8} (h : asked d i = 0) {k : Nat} (hf : d.fuse = k) (hk : k < 64) : put d i b = (⟨d.secs.set i.toNat (torn b k), -1, true⟩, 9) := by
  unfold put
  rw [if_neg (by rw [h]; simp), if_neg (by omega), if_pos (by omega), hf]
  rfl
theorem set_set {l : List (List UInt8)} {k : Nat} (a b : List UInt8) : (l.set k a).set k b = l.set k b := by simp
end K
end Go.Proofs.Ytijpmjedohjikaa
