/- KMem KMath2 JMem KBox KOpen (merged). -/
import Derived.Deep.MidRow
import Derived.Laws.OwnMore
import Derived.Laws.IdiomCopy
import Derived.ChangeSlices
import Derived.Lib.SmallJoins
import Derived.Deep.Strs
import Derived.Test.YtipccalbhlhljaaJMem
import Derived.Test.YtipccalbhlhljaaJPlain
namespace Go.Proofs.Ytipccalbhlhljaa
set_option linter.unusedVariables false
set_option linter.unusedSimpArgs false
open Go.RowKit
/-- a disk, and where its sectors lie -/
structure Kv where
  x : Dk
  A : Option Addr
  n : Nat
  c : Nat
def kval (u : Kv) : Value := .agg #[.slice u.A u.n u.c, .int .i64 u.x.fuse, .bool u.x.down]
def KRd (w : World) (u : Kv) : Prop := Rd w w.heap.size 64 u.A u.n (S u.x.secs) ∧ K.wf u.x ∧ u.n ≤ u.c ∧ u.c ≤ 9223372036854775807
theorem KRd.len {w : World} {u : Kv} (h : KRd w u) : u.x.secs.length = u.n := by
  have h1 := h.1.1
  rw [S_length _ h.2.1] at h1
  omega
theorem KRd.belowH {w w' : World} {u : Kv} (h : KRd w u) (hb : Below w.heap.size w w') : KRd w' u := ⟨h.1.belowH hb, h.2⟩
theorem KRd.drew {w : World} {u : Kv} (h : KRd w u) : KRd w.drew u := h
theorem KRd.alloc {w : World} {u : Kv} (h : KRd w u) (o : Obj) : KRd (w.alloc o) u := h.belowH ((Below.refl _ _).alloc (Nat.le_refl _) _)
/-- a disk that came in -/
def KIn (W : World) (u : Kv) : Prop := KRd W u ∧ (-9223372036854775808 ≤ u.x.fuse ∧ u.x.fuse ≤ 9223372036854775807 ∧ u.n * 64 ≤ 140737488351232)
/-- a disk as a result, beside an error: new memory where 'new' says so -/
def DiskN (x : Dk) (er : Int) (new : Prop) (w : World) (e : Ending) (w' : World) : Prop := (∃ (A : Option Addr) (n c : Nat), e = .returned (.tuple #[.agg #[.slice A n c, .int .i64 x.fuse, .bool x.down], .int .i64 er]) ∧ KRd w' ⟨x, A, n, c⟩ ∧ (new → ∀ bk o, A = some ⟨bk, o, none⟩ → w.heap.size ≤ bk)) ∧ Below w.heap.size w w'
/-- the same, new memory where there is no error -/
def DiskR (x : Dk) (er : Int) (w : World) (e : Ending) (w' : World) : Prop := DiskN x er (er = 0) w e w'
end Go.Proofs.Ytipccalbhlhljaa

namespace Go.Proofs.Ytipccalbhlhljaa
set_option linter.unusedVariables false
set_option linter.unusedSimpArgs false
open Go.RowKit
/-- values laid over a list from a place on -/
def laid : List Value → Nat → List Value → List Value
  | xs, _, [] => xs
  | xs, o, v :: vs => laid (xs.set o v) (o + 1) vs
theorem laid_length : ∀ (vs xs : List Value) (o : Nat), (laid xs o vs).length = xs.length
  | [], _, _ => rfl
  | v :: vs, xs, o => by unfold laid; rw [laid_length vs, List.length_set]
theorem laid_out : ∀ (vs xs : List Value) (o j : Nat), j < o ∨ o + vs.length ≤ j → (laid xs o vs)[j]? = xs[j]?
  | [], _, _, _, _ => rfl
  | v :: vs, xs, o, j, h => by
    simp only [List.length_cons] at h
    unfold laid
    rw [laid_out vs _ (o + 1) j (by omega), List.getElem?_set_ne (by omega)]
theorem laid_in : ∀ (vs xs : List Value) (o j : Nat), o + vs.length ≤ xs.length → j < vs.length → (laid xs o vs)[o + j]? = vs[j]?
  | [], _, _, _, _, h => by simp at h
  | v :: vs, xs, o, 0, h, hj => by
    simp only [List.length_cons] at h
    unfold laid
    rw [laid_out vs _ (o + 1) (o + 0) (by omega)]
    simp [show o < xs.length by omega]
  | v :: vs, xs, o, j + 1, h, hj => by
    simp only [List.length_cons] at h hj
    unfold laid
    have := laid_in vs (xs.set o v) (o + 1) j (by rw [List.length_set]; omega) (by omega)
    rw [show o + (j + 1) = o + 1 + j by omega, this]
    simp
theorem S_ext {m : Nat} {X Y : List Value} (hX : X.length = m * 64) (hY : Y.length = m * 64) (h : ∀ q r, q < m → r < 64 → X[q * 64 + r]? = Y[q * 64 + r]?) : X = Y := by
  refine List.ext_getElem? fun j => ?_
  by_cases hj : j < m * 64
  · have := h (j / 64) (j % 64) (by omega) (by omega)
    rwa [show j / 64 * 64 + j % 64 = j by omega] at this
  · rw [List.getElem?_eq_none (by omega), List.getElem?_eq_none (by omega)]
theorem set_all {l : List (List UInt8)} (hl : ∀ s ∈ l, s.length = 64) {k : Nat} {s : List UInt8} (hs : s.length = 64) : ∀ y ∈ l.set k s, y.length = 64 := fun y hy => by
  rcases List.mem_or_eq_of_mem_set hy with hy | rfl
  · exact hl y hy
  · exact hs
theorem S_set_get {l : List (List UInt8)} (hl : ∀ s ∈ l, s.length = 64) {k : Nat} {s : List UInt8} (hs : s.length = 64) (hk : k < l.length) {q r : Nat} (hq : q < l.length) (hr : r < 64) :
    (S (l.set k s))[q * 64 + r]? = if q = k then (U s)[r]? else (S l)[q * 64 + r]? := by
  by_cases e : q = k
  · subst e
    rw [if_pos rfl]
    exact S_at _ (set_all hl hs) (by simp [hk]) r hr
  · rw [if_neg e]
    obtain ⟨t, ht⟩ : ∃ t, l[q]? = some t := ⟨_, List.getElem?_eq_getElem hq⟩
    rw [S_at _ (set_all hl hs) (s := t) (by rw [List.getElem?_set_ne (by omega)]; exact ht) r hr, S_at l hl ht r hr]
/-- a whole sector -/
theorem S_laid {l : List (List UInt8)} (hl : ∀ s ∈ l, s.length = 64) {k : Nat} {s : List UInt8} (hs : s.length = 64) (hk : k < l.length) : laid (S l) (k * 64) (U s) = S (l.set k s) := by
  have hU : (U s).length = 64 := by rw [U_length, hs]
  have hS := S_length l hl
  refine S_ext (m := l.length) (by rw [laid_length, hS]) (by rw [S_length _ (set_all hl hs), List.length_set]) fun q r hq hr => ?_
  rw [S_set_get hl hs hk hq hr]
  by_cases e : q = k
  · subst e
    rw [if_pos rfl, laid_in _ _ _ _ (by omega) (by omega)]
  · rw [if_neg e, laid_out _ _ _ _ (by omega)]
/-- a byte of a sector -/
theorem S_byte {l : List (List UInt8)} (hl : ∀ s ∈ l, s.length = 64) {k j : Nat} {s : List UInt8} (hs : l[k]? = some s) (hj : j < 64) (x : UInt8) :
    (S l).set (k * 64 + j) (.int .u8 (x.toNat : Int)) = S (l.set k (s.set j x)) := by
  have h64 := hl s (List.mem_of_getElem? hs)
  have hk : k < l.length := (List.getElem?_eq_some_iff.1 hs).1
  have h64' : (s.set j x).length = 64 := by rw [List.length_set, h64]
  have hS := S_length l hl
  refine S_ext (m := l.length) (by rw [List.length_set, hS]) (by rw [S_length _ (set_all hl h64'), List.length_set]) fun q r hq hr => ?_
  rw [S_set_get hl h64' hk hq hr]
  by_cases e : q = k
  · subst e
    rw [if_pos rfl, U_get]
    by_cases e2 : r = j
    · subst e2
      rw [List.getElem?_set_self (by omega), List.getElem?_set_self (by omega)]
      rfl
    · rw [List.getElem?_set_ne (by omega), List.getElem?_set_ne (by omega), S_at l hl hs r hr, U_get]
  · rw [if_neg e, List.getElem?_set_ne (by omega)]
theorem own_laid {base size n cap g : Nat} {e : TypeId} : ∀ (vs xs : List Value) (o : Nat) (w : World), w.ownsRow base e size (.slice (some ⟨g, 0, none⟩) n cap) n xs → (w.setCells g o vs).ownsRow base e size (.slice (some ⟨g, 0, none⟩) n cap) n (laid xs o vs)
  | [], _, _, _, h => h
  | v :: vs, xs, o, w, h => own_laid vs _ (o + 1) _ (h.stored o v).1
/-- a whole sector stored into one's own sectors -/
theorem own_sector {base n cap g : Nat} {e : TypeId} {w : World} {l : List (List UInt8)} (h : w.ownsRow base e 64 (.slice (some ⟨g, 0, none⟩) n cap) n (S l)) (hl : ∀ s ∈ l, s.length = 64) {k : Nat} {s : List UInt8} (hs : s.length = 64) (hk : k < l.length) :
    (w.setCells g (k * 64) (U s)).ownsRow base e 64 (.slice (some ⟨g, 0, none⟩) n cap) n (S (l.set k s)) := by
  rw [← S_laid hl hs hk]
  exact own_laid _ _ _ _ h
theorem own_byte {base n cap g : Nat} {e : TypeId} {w : World} {l : List (List UInt8)} (h : w.ownsRow base e 64 (.slice (some ⟨g, 0, none⟩) n cap) n (S l)) (hl : ∀ s ∈ l, s.length = 64) {k j : Nat} {s : List UInt8} (hs : l[k]? = some s) (hj : j < 64) (x : UInt8) :
    (w.setCell ⟨g, k * 64 + j, none⟩ (.int .u8 (x.toNat : Int))).ownsRow base e 64 (.slice (some ⟨g, 0, none⟩) n cap) n (S (l.set k (s.set j x))) := by
  rw [← S_byte hl hs hj x]
  exact (h.stored _ _).1
theorem own_there {base n cap g : Nat} {e : TypeId} {w : World} {l : List (List UInt8)} (h : w.ownsRow base e 64 (.slice (some ⟨g, 0, none⟩) n cap) n (S l)) {k : Nat} (hk : k < n) : w.there g (k * 64) 64 := fun j hj => by
  have hl := h.1
  refine ⟨?_, h.frozenAt _⟩
  rw [h.cellAt _ (by omega), List.getElem?_eq_getElem (by omega)]
  rfl
theorem own_where {base size n c : Nat} {e : TypeId} {w : World} {A : Option Addr} {xs : List Value} (h : w.ownsRow base e size (.slice A n c) n xs) (hn : 0 < n) : ∃ g, A = some ⟨g, 0, none⟩ ∧ base ≤ g ∧ g < w.heap.size := by
  rcases h.2 with ⟨h', h0, _⟩ | ⟨g, cap, cur, hv, hb, hg, _⟩
  · omega
  · simp only [Value.slice.injEq] at hv
    refine ⟨g, hv.1, hb, ?_⟩
    have := (Array.getElem?_eq_some_iff.1 hg).1
    exact this
theorem Box.setCells {w : World} {b : Nat} {T : TypeId} : ∀ (vs : List Value) (o : Nat) (w : World) (cs : List Value), Box w b T cs.toArray → Box (w.setCells b o vs) b T (laid cs o vs).toArray
  | [], _, _, _, h => h
  | v :: vs, o, w, cs, h => by
    have h1 := h.set o v
    rw [List.setIfInBounds_toArray] at h1
    exact Box.setCells (w := w) vs (o + 1) _ (cs.set o v) h1
namespace K
theorem put_no {d : Dk} {i : Int} {b : List UInt8} (h : asked d i ≠ 0) : put d i b = (d, asked d i) := by unfold put; rw [if_pos h]
theorem put_yes {d : Dk} {i : Int} {b : List UInt8} (h : asked d i = 0) (hf : d.fuse = -1 ∨ 64 ≤ d.fuse) : put d i b = (⟨d.secs.set i.toNat b, if d.fuse = -1 then -1 else d.fuse - 64, d.down⟩, 0) := by
  unfold put
  rw [if_neg (by rw [h]; simp)]
  by_cases e : d.fuse = -1
  · rw [if_pos e, if_pos e]
  · rw [if_neg e, if_neg e, if_neg (by omega)]
theorem put_torn {d : Dk} {i : Int} {b : List UInt8} (h : asked d i = 0) {k : Nat} (hf : d.fuse = k) (hk : k < 64) : put d i b = (⟨d.secs.set i.toNat (torn b k), -1, true⟩, 9) := by
  unfold put
  rw [if_neg (by rw [h]; simp), if_neg (by omega), if_pos (by omega), hf]
  rfl
theorem set_set {l : List (List UInt8)} {k : Nat} (a b : List UInt8) : (l.set k a).set k b = l.set k b := by simp
end K
end Go.Proofs.Ytipccalbhlhljaa

namespace Go.Proofs.Ytipccalbhlhljaa
set_option linter.unusedVariables false
set_option linter.unusedSimpArgs false
open Go.RowKit
/-- a record as a value -/
def rv (x : Rc) : Value := .agg #[.int .i64 x.seq, .int .i64 x.gen, .string (strB x.note)]
/-- a record and an error -/
def RecR (x : Rc) (er : Int) (w : World) (e : Ending) (w' : World) : Prop := e = .returned (.tuple #[rv x, .int .i64 er]) ∧ Below w.heap.size w w'
/-- a record that came in, its note of any length that memory holds -/
def RcIn (x : Rc) : Prop := (-9223372036854775808 ≤ x.seq ∧ x.seq ≤ 9223372036854775807) ∧ (-9223372036854775808 ≤ x.gen ∧ x.gen ≤ 9223372036854775807) ∧ x.note.length ≤ 9223372036854775807
theorem may_in {x : Rc} (h : J.may x) : RcIn x := by
  obtain ⟨h1, h2, h3, h4, h5⟩ := h
  exact ⟨⟨by omega, by omega⟩, ⟨by omega, by omega⟩, by omega⟩
/-- of a text of n bytes, so far k laid in 64 zeros -/
theorem torn_next {b : List UInt8} {k : Nat} (hk : k < b.length) (hb : b.length ≤ 64) {x : UInt8} (hx : b[k]? = some x) : (K.torn b k).set k x = K.torn b (k + 1) := by
  have hl : (b.take k).length = k := by simp; omega
  obtain ⟨m, hm⟩ : ∃ m, 64 - k = m + 1 := ⟨63 - k, by omega⟩
  unfold K.torn
  rw [List.set_append_right k x (by omega), hl, Nat.sub_self, hm, List.replicate_succ, List.set_cons_zero, show 64 - (k + 1) = m by omega, List.take_add_one, hx]
  simp
theorem torn_len2 {b : List UInt8} {k : Nat} (hk : k ≤ b.length) (hb : b.length ≤ 64) : (K.torn b k).length = 64 := by simp [K.torn]; omega
theorem torn_sec {x : Rc} (h : J.may x) : (K.torn (J.full x) (J.full x).length).set 63 165 = J.sec x := by
  have h1 := J.body_len h
  have h2 := J.full_len x
  unfold K.torn J.sec
  obtain ⟨m, hm⟩ : ∃ m, 64 - (J.full x).length = m + 1 := ⟨63 - (J.full x).length, by omega⟩
  have hm2 : 63 - (J.full x).length = m := by omega
  rw [List.take_of_length_le (Nat.le_refl _), List.set_append_right 63 165 (by omega), hm2, hm, List.replicate_succ', List.set_append_right _ 165 (by simp)]
  simp only [List.length_replicate]
  rw [Nat.sub_self]
  rfl
theorem boxU_byte {w : World} {b : Nat} {T : TypeId} {l : List UInt8} (h : Box w b T (U l).toArray) (j : Nat) (x : UInt8) : Box (w.setCell ⟨b, j, none⟩ (.int .u8 (x.toNat : Int))) b T (U (l.set j x)).toArray := by
  have h1 := h.set j (.int .u8 (x.toNat : Int))
  rw [List.setIfInBounds_toArray] at h1
  have e : (U l).set j (.int .u8 (x.toNat : Int)) = U (l.set j x) := by simp [U, List.map_set]
  rwa [e] at h1
end Go.Proofs.Ytipccalbhlhljaa

namespace Go.Proofs.Ytipccalbhlhljaa
set_option linter.unusedVariables false
set_option linter.unusedSimpArgs false
open Go.RowKit
theorem KRd.other {w : World} {u : Kv} (h : KRd w u) {b o : Nat} (hb : ∀ bk ok, u.A = some ⟨bk, ok, none⟩ → bk ≠ b) (v : Value) : KRd (w.setCell ⟨b, o, none⟩ v) u := ⟨(h.1.other hb v).more (by simp), h.2⟩
theorem Box.past {w : World} {b : Nat} {T : TypeId} {cs : Array Value} (h : Box w b T cs) (o : Nat) (ho : cs.size ≤ o) : w.cell? ⟨b, o, none⟩ = none := by
  rw [cell_of_row w b o cs T (0, 0) h]
  exact Array.getElem?_eq_none ho
/-- sectors don't lie in a box of three cells -/
theorem KRd.apart {w : World} {u : Kv} (h : KRd w u) {b : Nat} {T : TypeId} {v0 v1 v2 : Value} (hB : Box w b T #[v0, v1, v2]) (hn : 0 < u.n) : ∀ bk ok, u.A = some ⟨bk, ok, none⟩ → bk ≠ b := fun bk ok hA e => by
  subst e
  obtain ⟨b', o', s, e, _, _, h64, hc⟩ := h.1.atS h.2.1 h.len hn
  rw [hA] at e
  obtain ⟨rfl, rfl⟩ : bk = b' ∧ ok = o' := by simpa using e
  have h3 : (U s)[3]? = some ((U s)[3]'(by rw [U_length]; omega)) := List.getElem?_eq_getElem _
  have := hc 3 _ h3
  rw [hB.past _ (by show 3 ≤ _; omega)] at this
  cases this
theorem KRd.empty {w : World} {u : Kv} (h : KRd w u) (hn : u.n = 0) (w' : World) (hb : w.heap.size ≤ w'.heap.size) : KRd w' u := by
  refine ⟨⟨h.1.1, fun h0 => absurd h0 (by omega)⟩, h.2⟩
theorem KRd.box {w : World} {u : Kv} (h : KRd w u) {b o : Nat} {T : TypeId} {v0 v1 v2 : Value} (hB : Box w b T #[v0, v1, v2]) (v : Value) : KRd (w.setCell ⟨b, o, none⟩ v) u := by
  rcases Nat.eq_zero_or_pos u.n with h0 | h0
  · exact h.empty h0 _ (by simp)
  · exact h.other (h.apart hB h0) v
theorem Box.three {w : World} {b : Nat} {T : TypeId} {v0 v1 v2 : Value} (h : Box w b T #[v0, v1, v2]) (u0 u1 u2 : Value) : Box (((w.setCell ⟨b, 0, none⟩ u0).setCell ⟨b, 1, none⟩ u1).setCell ⟨b, 2, none⟩ u2) b T #[u0, u1, u2] := ((h.set 0 u0).set 1 u1).set 2 u2
theorem KRd.box3 {w : World} {u : Kv} (h : KRd w u) {b : Nat} {T : TypeId} {v0 v1 v2 : Value} (hB : Box w b T #[v0, v1, v2]) (u0 u1 u2 : Value) : KRd (((w.setCell ⟨b, 0, none⟩ u0).setCell ⟨b, 1, none⟩ u1).setCell ⟨b, 2, none⟩ u2) u :=
  ((h.box hB u0).box (v0 := u0) (hB.set 0 u0) u1).box (v0 := u0) (v1 := u1) ((hB.set 0 u0).set 1 u1) u2
end Go.Proofs.Ytipccalbhlhljaa

namespace Go.Proofs.Ytipccalbhlhljaa
set_option linter.unusedVariables false
set_option linter.unusedSimpArgs false
open Go.RowKit Go.ChangeShapes Go.WideShapes Go.Joins Go.Deep

theorem u8_of {z : Int} (h : (Lit.int .u8 z).wf = true) : ∃ x : UInt8, Value.int .u8 z = Value.int .u8 (x.toNat : Int) := by
  have hb := wf_bounds_u8 h
  refine ⟨UInt8.ofNat z.toNat, ?_⟩
  congr 1
  have h1 : (UInt8.ofNat z.toNat).toNat = z.toNat % 256 := by simp
  rw [h1]
  omega
/-- the cells of an array of bytes -/
theorem bytes_cells {H : Type} {enc : TypeId × Value → H} {P : Program} {W : World} {base fuel n : Nat} {spare : Nat → Bool} {held : Bool} {t e : TypeId} {cs : List Value} {y : DataW H × List MemPlace} (ht : P.underlying t = some (.array n e)) (he : P.underlying e = some (.int .u8)) (hc : P.cellsOf e = 1)
    (hl : cs.length = n) (hf : DataW.trod enc P W base spare held fuel t cs = some y) : ∃ s : List UInt8, s.length = n ∧ cs = U s := by
  obtain ⟨xs, m, _, _, _, hxs, hall⟩ := DataW.trod_array ht hf
  have each : ∀ i, i < n → ∃ z : UInt8, cs[i]? = some (.int .u8 (z.toNat : Int)) := by
    intro i hi
    have h1 := hall i hi
    rw [hc, Nat.mul_one] at h1
    have hx : xs[i]? = some (xs[i]'(by omega)) := List.getElem?_eq_getElem _
    rw [hx] at h1
    obtain ⟨z, e1, _, hw⟩ := DataW.trod_int he h1
    obtain ⟨x, hx⟩ := u8_of hw
    refine ⟨x, ?_⟩
    have h2 : (cs.drop i).take 1 = [cs[i]'(by omega)] := by
      rw [List.drop_eq_getElem_cons (by omega)]; rfl
    rw [h2] at e1
    rw [List.getElem?_eq_getElem (by omega), ← hx]
    simpa using e1
  clear hall hf
  have all : ∀ j, j ≤ n → ∃ s : List UInt8, s.length = j ∧ cs.take j = U s := by
    intro j
    induction j with
    | zero => exact fun _ => ⟨[], rfl, by simp [U]⟩
    | succ j ih =>
      intro hj
      obtain ⟨s, h1, h3⟩ := ih (by omega)
      obtain ⟨z, h4⟩ := each j (by omega)
      refine ⟨s ++ [z], by simp [h1], ?_⟩
      rw [List.take_add_one, h4, h3, U_append]; rfl
  obtain ⟨s, h1, h3⟩ := all n (Nat.le_refl _)
  refine ⟨s, h1, ?_⟩
  rwa [List.take_of_length_le (by omega)] at h3
/-- a slice that came in, of elements of several cells each, whatever the element -/
theorem rows_free {H : Type} {enc : TypeId × Value → H} {P : Program} {W : World} {base fuel : Nat} {spare : Nat → Bool} {held : Bool} {α : Type} {f : α → List Value} {k : Nat} {t e : TypeId} {v : Value} {x : DataW H × List MemPlace}
    (hk : 0 < k) (hf : ∀ x, (f x).length = k) (ht : P.underlying t = some (.slice e)) (hC : P.cellsOf e = k)
    (hel : ∀ (cs : List Value) (y : DataW H × List MemPlace) (fl : Nat), cs.length = k → DataW.trod enc P W base spare held fl e cs = some y → ∃ a : α, cs = f a)
    (h : DataW.trod enc P W base spare held fuel t [v] = some x) :
    ∃ a len cap l, v = .slice a len cap ∧ Rd W W.heap.size k a len (FC f l) ∧ len ≤ cap ∧ cap ≤ 9223372036854775807 ∧ l.length = len := by
  rcases open_slice ht h with ⟨hcs, _⟩ | ⟨a, len, cap, m, n, D, Pl, hcs, hb, hl, hm, hmm, hx0, hi⟩
  · obtain rfl : v = .slice none 0 0 := by simpa using hcs
    exact ⟨none, 0, 0, [], rfl, Rd.zero _ _ _ _, Nat.le_refl _, by omega, rfl⟩
  · obtain rfl : v = .slice (some a) len cap := by simpa using hcs
    have hlm : len ≤ m := by rw [hmm]; split <;> omega
    rw [hC] at hi
    have each : ∀ i, i < len → ∃ u : α, ∀ j, j < k → W.cell? ((a.add (i * k)).add j) = (f u)[j]? := by
      intro i hi2
      obtain ⟨cs, hcs, htr⟩ := hi i (by omega)
      obtain ⟨_, hcl, hat⟩ := World.cells?_some hcs
      obtain ⟨u, rfl⟩ := hel _ _ _ hcl htr
      exact ⟨u, hat⟩
    clear hi
    have all : ∀ q, q ≤ len → ∃ l : List α, l.length = q ∧ ∀ i u, l[i]? = some u → ∀ j, j < k → W.cell? ((a.add (i * k)).add j) = (f u)[j]? := by
      intro q
      induction q with
      | zero => exact fun _ => ⟨[], rfl, by simp⟩
      | succ q ih =>
        intro hq
        obtain ⟨l, h3, h5⟩ := ih (by omega)
        obtain ⟨u, h7⟩ := each q (by omega)
        refine ⟨l ++ [u], by simp [h3], ?_⟩
        intro i u' hiu
        by_cases hik : i < q
        · rw [List.getElem?_append_left (by omega)] at hiu
          exact h5 i u' hiu
        · rw [List.getElem?_append_right (by omega), h3] at hiu
          have hi0 : i = q := by
            have := (List.getElem?_eq_some_iff.1 hiu).1
            simp at this
            omega
          subst hi0
          obtain rfl : u = u' := by simpa using hiu
          exact h7
    obtain ⟨l, h3, h5⟩ := all len (Nat.le_refl _)
    unfold maxLen at hm
    refine ⟨some a, len, cap, l, rfl, ⟨by rw [FC_length hf, h3], fun hn => ?_⟩, hl, hm, h3⟩
    obtain ⟨b, o, spot⟩ := a
    have e0 : l[0]? = some (l[0]'(by omega)) := List.getElem?_eq_getElem _
    have c0 := h5 0 _ e0 0 hk
    have hv0 : (f (l[0]'(by omega)))[0]? = some ((f (l[0]'(by omega)))[0]'(by rw [hf]; exact hk)) := List.getElem?_eq_getElem _
    rw [hv0] at c0
    have hspot : spot = none := by
      have : W.cell? (((⟨b, o, spot⟩ : Addr).add (0 * k)).add 0) = some ((f (l[0]'(by omega)))[0]'(by rw [hf]; exact hk)) := c0
      simpa [Addr.add] using World.cell?_spot this
    subst hspot
    have hadd : ∀ j, (⟨b, o, none⟩ : Addr).add j = ⟨b, o + j, none⟩ := fun j => by unfold Addr.add; split <;> simp_all
    have hadd2 : ∀ o' j, (⟨b, o', none⟩ : Addr).add j = ⟨b, o' + j, none⟩ := fun o' j => by unfold Addr.add; split <;> simp_all
    refine ⟨b, o, rfl, ?_, fun j hj => ?_⟩
    · rw [hadd, hadd2] at c0
      exact lt_of_cell c0
    · rw [FC_length hf, h3] at hj
      have hq : j / k < l.length := by rw [h3]; exact (Nat.div_lt_iff_lt_mul hk).2 hj
      have hx : l[j / k]? = some (l[j / k]'hq) := List.getElem?_eq_getElem hq
      have hdm : j / k * k + j % k = j := by rw [Nat.mul_comm]; exact Nat.div_add_mod j k
      have := h5 (j / k) _ hx (j % k) (Nat.mod_lt _ hk)
      rw [hadd, hadd2, ← FC_at hf hx (j % k) (Nat.mod_lt _ hk), Nat.add_assoc, hdm] at this
      exact this
/-- what a slice that came in weighs -/
theorem rows_size {H : Type} {enc : TypeId × Value → H} {P : Program} {W : World} {base fuel : Nat} {spare : Nat → Bool} {held : Bool} {by_ : Nat} {t e : TypeId} {a : Option Addr} {len cap : Nat} {x : DataW H × List MemPlace}
    (ht : P.underlying t = some (.slice e)) (hB : P.bytesOf e = by_) (hw : ∀ n ∈ x.1.weights P t, n ≤ 140737488351232) (h : DataW.trod enc P W base spare held fuel t [.slice a len cap] = some x) : len * by_ ≤ 140737488351232 := by
  rcases open_slice ht h with ⟨hcs, _⟩ | ⟨a, len, cap, m, n, D, Pl, hcs, hb, hl, hm, hmm, hx0, hi⟩
  · obtain ⟨rfl, rfl, rfl⟩ : a = none ∧ len = 0 ∧ cap = 0 := by simpa using hcs
    omega
  · obtain ⟨rfl, rfl, rfl⟩ : _ ∧ _ ∧ _ := by simpa using hcs
    rw [hx0] at hw
    have hw : ∀ n ∈ (DataW.slice ((List.range _).map D) ((List.range (m - _)).map fun j => D (_ + j))).weights P t, n ≤ 140737488351232 := hw
    rw [weights_slice ht, hB] at hw
    have hlen := hw _ (List.mem_cons_self ..)
    simp only [List.length_map, List.length_range] at hlen
    exact Nat.le_trans (Nat.mul_le_mul_right _ (Nat.le_add_right _ _)) hlen
/-- a sector with its length -/
def Sec : Type := { s : List UInt8 // s.length = 64 }
def secU (s : Sec) : List Value := U s.1
theorem secU_len (s : Sec) : (secU s).length = 64 := by unfold secU; rw [U_length, s.2]
theorem FC_secU : ∀ l : List Sec, FC secU l = S (l.map fun s => s.1)
  | [] => rfl
  | s :: l => by rw [FC_cons, List.map_cons, S_cons, FC_secU l]; rfl
end Go.Proofs.Ytipccalbhlhljaa

