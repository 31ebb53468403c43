/- JRing (merged). -/
import Derived.Test.YtipccalbhlhljaaJJTurn
namespace Go.Proofs.Ytipccalbhlhljaa
set_option linter.unusedVariables false
set_option linter.unusedSimpArgs false
open Go.RowKit Go.ChangeShapes Go.WideShapes Go.Joins Go.Deep
def Tx : Type := { s : List UInt8 // s.length ≤ 9223372036854775807 }
def xc (t : Tx) : List Value := [.string (strB t.1)]
theorem xc_len (t : Tx) : (xc t).length = 1 := rfl
def TxRd (w : World) (A : Option Addr) (n c : Nat) (l : List Tx) : Prop := Rd w w.heap.size 1 A n (FC xc l) ∧ n ≤ c ∧ c ≤ 9223372036854775807
theorem TxRd.at {w : World} {A : Option Addr} {n c : Nat} {l : List Tx} (h : TxRd w A n c l) {k : Nat} (hk : k < n) :
    ∃ b o s, A = some ⟨b, o, none⟩ ∧ b < w.heap.size ∧ w.cell? ⟨b, o + k, none⟩ = some (.string (strB s)) ∧ s.length ≤ 9223372036854775807 := by
  have hlen : l.length = n := by have h1 := h.1.1; rw [FC_length xc_len] at h1; omega
  obtain ⟨b, o, e, hb, hc⟩ := h.1.2 (by omega)
  obtain ⟨t, ht⟩ : ∃ t, l[k]? = some t := ⟨_, List.getElem?_eq_getElem (by omega)⟩
  have h0 := hc (k * 1 + 0) (by rw [FC_length xc_len]; omega)
  rw [FC_at xc_len ht 0 (by omega)] at h0
  rw [show k * 1 + 0 = k by omega] at h0
  exact ⟨b, o, t.1, e, hb, h0, t.2⟩
theorem opens_Texts {H : Type} {enc : TypeId × Value → H} {W : World} {base b0 : Nat} {held : Bool} {r : Reach} {v : Value} {d : DataW H} {p : List MemPlace} (hv : Value.okWide Try.prog W r b0 50 v)
    (h : DataW.Trod enc Try.prog W base (fun _ => true) held 50 v d p) : ∃ A n c l, v = .slice A n c ∧ TxRd W A n c l := by
  obtain ⟨a, len, cap, rfl⟩ := okWide_slice Try.underlying50 hv
  obtain ⟨fuel, hf⟩ := h
  obtain ⟨a', len', cap', l, e, hr, h3, h4, _⟩ := rows_free (f := xc) (k := 1) (by omega) xc_len Try.underlying50 (by kernel_rfl)
    (fun cs y fl hl ht => by
      match cs, hl with
      | [c0], _ =>
        obtain ⟨s, es, _, hm⟩ := DataW.trod_string Try.underlying9 ht
        obtain rfl : c0 = .string s := by simpa using es
        have hb : strB s.data.toList = s := by unfold strB; rw [Array.toArray_toList]
        have hl : s.data.toList.length ≤ 9223372036854775807 := by
          have e : s.data.toList.length = s.size := by rw [Array.length_toList]; rfl
          rw [e]
          unfold maxLen at hm
          omega
        exact ⟨⟨s.data.toList, hl⟩, by show _ = [Value.string (strB s.data.toList)]; rw [hb]⟩) (v := .slice a len cap) hf
  obtain ⟨rfl, rfl, rfl⟩ : a = a' ∧ len = len' ∧ cap = cap' := by simpa using e
  exact ⟨a, len, cap, l, rfl, hr, h3, h4⟩
namespace J
/-- behind k writes, of n sectors: has sector j a record? -/
def has (n k j : Nat) : Prop := n ≤ k + 1 ∨ (1 ≤ j ∧ j ≤ k + 1)
instance (n k j : Nat) : Decidable (has n k j) := inferInstanceAs (Decidable (_ ∨ _))
/-- how many of the first i -/
def cnt (n k i : Nat) : Nat := if n ≤ k + 1 then i else min (i - 1) (k + 1)
theorem cnt_step {n k i : Nat} (hi : i < n) : cnt n k (i + 1) = if has n k i then cnt n k i + 1 else cnt n k i := by
  unfold cnt
  by_cases h : n ≤ k + 1
  · rw [if_pos h, if_pos h, if_pos (show has n k i from Or.inl h)]
  · rw [if_neg h, if_neg h]
    by_cases h2 : 1 ≤ i ∧ i ≤ k + 1
    · rw [if_pos (show has n k i from Or.inr h2)]; omega
    · rw [if_neg (show ¬ has n k i by rintro (h3 | h3); exact h h3; exact h2 h3)]; omega
theorem cnt_end (n k : Nat) (hn : 0 < n) : cnt n k n = min n (k + 1) := by
  unfold cnt
  split <;> omega
/-- which sectors have a record -/
def Held (l : List (List UInt8)) (k : Nat) : Prop := ∀ j s, l[j]? = some s → ((find s).2 = 0 ↔ has l.length k j)
theorem held_first {n : Nat} {note : List UInt8} (h1 : 2 ≤ n) (hn : note.length ≤ 30) : Held ((List.replicate n K.zero).set 1 (sec ⟨1, 1, note⟩)) 0 := fun j s hs => by
  have hy : may ⟨1, 1, note⟩ := ⟨by show (1 : Int) ≤ 1; omega, by show (1 : Int) ≤ _; omega, by show (1 : Int) ≤ 1; omega, by show (1 : Int) ≤ _; omega, hn⟩
  rw [List.length_set, List.length_replicate]
  unfold has
  by_cases e : j = 1
  · subst e
    rw [List.getElem?_set_self (by simp; omega)] at hs
    injection hs with hs
    rw [← hs, find_sec hy]
    simp
  · rw [List.getElem?_set_ne (by omega), List.getElem?_replicate] at hs
    split at hs
    · injection hs with hs
      rw [← hs, zero_find]
      constructor
      · intro h; exact absurd h (by decide)
      · rintro (h | h) <;> omega
    · cases hs
theorem held_next {l : List (List UInt8)} {k : Nat} (h : Held l k) (hn : 2 ≤ l.length) {y : Rc} (hy : may y) (hs : y.seq = k + 2) : Held (l.set (y.seq.tmod l.length).toNat (sec y)) (k + 1) := fun j s hj => by
  have e0 : (y.seq.tmod l.length).toNat = (k + 2) % l.length := by
    rw [hs, Int.tmod_eq_emod_of_nonneg (by omega)]
    have : ((k : Int) + 2) % (l.length : Int) = (((k + 2) % l.length : Nat) : Int) := by push_cast; rfl
    rw [this]; rfl
  rw [e0] at hj
  have hp : (k + 2) % l.length < l.length := Nat.mod_lt _ (by omega)
  rw [List.length_set]
  have key : has l.length (k + 1) j ↔ (j = (k + 2) % l.length ∨ (j < l.length ∧ has l.length k j)) ∨ l.length ≤ j ∧ has l.length (k + 1) j := by
    unfold has
    by_cases c1 : l.length ≤ k + 1
    · by_cases c2 : j < l.length
      · constructor
        · intro _; exact Or.inl (Or.inr ⟨c2, Or.inl c1⟩)
        · intro _; exact Or.inl (by omega)
      · constructor
        · intro h; exact Or.inr ⟨by omega, h⟩
        · intro _; exact Or.inl (by omega)
    · by_cases c3 : l.length = k + 2
      · have : (k + 2) % l.length = 0 := by rw [c3]; exact Nat.mod_self _
        rw [this]
        by_cases c2 : j < l.length
        · constructor
          · intro _; rcases Nat.eq_zero_or_pos j with h | h; exact Or.inl (Or.inl h); exact Or.inl (Or.inr ⟨c2, Or.inr ⟨h, by omega⟩⟩)
          · intro _; exact Or.inl (by omega)
        · constructor
          · intro h; exact Or.inr ⟨by omega, h⟩
          · intro _; exact Or.inl (by omega)
      · have : (k + 2) % l.length = k + 2 := Nat.mod_eq_of_lt (by omega)
        rw [this]
        constructor
        · rintro (h | ⟨h1, h2⟩)
          · omega
          · by_cases c2 : j < l.length
            · by_cases e : j = k + 2
              · exact Or.inl (Or.inl e)
              · exact Or.inl (Or.inr ⟨c2, Or.inr ⟨h1, by omega⟩⟩)
            · exact Or.inr ⟨by omega, Or.inr ⟨h1, h2⟩⟩
        · rintro ((h | ⟨_, h | ⟨h1, h2⟩⟩) | ⟨_, h⟩)
          · exact Or.inr (by omega)
          · omega
          · exact Or.inr ⟨h1, by omega⟩
          · exact h
  have hjl : j < l.length := by have := (List.getElem?_eq_some_iff.1 hj).1; rwa [List.length_set] at this
  rw [key]
  by_cases e : j = (k + 2) % l.length
  · rw [e, List.getElem?_set_self hp] at hj
    injection hj with hj
    rw [← hj, find_sec hy]
    simp [e]
  · rw [List.getElem?_set_ne (by omega)] at hj
    rw [h j s hj]
    constructor
    · intro h1; exact Or.inl (Or.inr ⟨hjl, h1⟩)
    · rintro ((h1 | ⟨_, h1⟩) | ⟨h1, _⟩)
      · exact absurd h1 e
      · exact h1
      · omega
theorem ring_step {l : List (List UInt8)} {k : Nat} {x : Rc} {g : Int} {note : List UInt8} (hl : IsLast l x) (hh : Held l k) (hn : 2 ≤ l.length) (h64 : l.length ≤ 64) (hs : x.seq = k + 1) (hk : k ≤ 100) (hg : x.gen ≤ g) (hg2 : g ≤ 1099511627776) (h3 : note.length ≤ 30) :
    ∃ lq, write ⟨l, -1, false⟩ g note = (⟨lq, -1, false⟩, ⟨(k : Int) + 2, g, note⟩, 0) ∧ lq.length = l.length ∧ IsLast lq ⟨(k : Int) + 2, g, note⟩ ∧ Held lq (k + 1) := by
  have hx : may x := by obtain ⟨⟨i, hv⟩, _⟩ := hl; exact hv.1
  obtain ⟨d', r, er, heq, hlen, hf1, hf2, hc⟩ := write_cases (d := ⟨l, -1, false⟩) (x := x) (gen := g) (note := note) ⟨h64, by show (-1 : Int) ≤ -1; omega⟩ rfl hl hn hg hg2 h3 (by omega)
  rcases hc with ⟨rfl, hr, hdn, hil, hfm, hsec⟩ | ⟨_, _, _, hf0, _⟩
  · have e1 : x.seq + 1 = (k : Int) + 2 := by omega
    rw [e1] at hr hil hsec
    have hy : may ⟨(k : Int) + 2, g, note⟩ := ⟨by show 1 ≤ (k : Int) + 2; omega, by show (k : Int) + 2 ≤ _; omega, by show 1 ≤ g; have := hx.2.2.1; omega, hg2, h3⟩
    obtain ⟨lq, f, o⟩ := d'
    have e2 : f = -1 := hfm rfl
    have e3 : o = false := hdn
    subst e2 e3 hr
    refine ⟨lq, heq, hlen, hil, ?_⟩
    have h4 := held_next hh hn hy (show (k : Int) + 2 = k + 2 from rfl)
    have e5 : lq = l.set ((k : Int) + 2 |>.tmod l.length).toNat (sec ⟨(k : Int) + 2, g, note⟩) := hsec
    rw [e5]
    exact h4
  · exact absurd hf0 (by show ¬ 0 ≤ (-1 : Int); omega)
end J
end Go.Proofs.Ytipccalbhlhljaa

