/- JMath3 (merged). -/
import Derived.Test.YtipccalbhlhljaaJPlain
import Derived.Test.YtipccalbhlhljaaJKMem
namespace Go.Proofs.Ytipccalbhlhljaa
set_option linter.unusedVariables false
set_option linter.unusedSimpArgs false
namespace J
/-- sector i has record x, in its place -/
def Valid (l : List (List UInt8)) (i : Nat) (x : Rc) : Prop := may x ∧ l[i]? = some (sec x) ∧ x.seq.tmod l.length = i
def IsLast (l : List (List UInt8)) (x : Rc) : Prop := (∃ i, Valid l i x) ∧ ∀ j y, Valid l j y → y.seq ≤ x.seq
theorem valid_same {l : List (List UInt8)} {i : Nat} {x y : Rc} (h : Valid l i x) (h' : Valid l i y) : x = y := sec_inj h.1 h'.1 (by have e := h.2.1; rw [h'.2.1] at e; injection e with e; exact e.symm)
theorem upto_spec (l : List (List UInt8)) : ∀ k, k ≤ l.length → (upto l k = none ∧ ∀ j y, j < k → ¬ Valid l j y) ∨ ((∃ i, i < k ∧ Valid l i (upto l k)) ∧ ∀ j y, j < k → Valid l j y → y.seq ≤ (upto l k).seq)
  | 0, _ => Or.inl ⟨rfl, fun j y h => by omega⟩
  | k + 1, hk => by
    obtain ⟨s, hs⟩ : ∃ s, l[k]? = some s := ⟨_, List.getElem?_eq_getElem (by omega)⟩
    have ih := upto_spec l k (by omega)
    rw [upto_step hs]
    rcases find_or s with hf | ⟨x, hx, hxs, hf⟩
    · rw [better_no hf]
      have hno : ∀ y, ¬ Valid l k y := fun y hv => by
        have e := hv.2.1
        rw [hs] at e
        injection e with e
        rw [e, find_sec hv.1] at hf
        injection hf with _ hf
        cases hf
      rcases ih with ⟨h1, h2⟩ | ⟨⟨i, hi, hv⟩, h2⟩
      · refine Or.inl ⟨h1, fun j y hj => ?_⟩
        by_cases e : j = k
        · subst e; exact hno y
        · exact h2 j y (by omega)
      · refine Or.inr ⟨⟨i, by omega, hv⟩, fun j y hj hy => ?_⟩
        by_cases e : j = k
        · subst e; exact absurd hy (hno y)
        · exact h2 j y (by omega) hy
    · rw [better_is hf]
      have hsame : ∀ y, Valid l k y → y = x := fun y hv => by
        have e := hv.2.1
        rw [hs] at e
        injection e with e
        exact sec_inj hv.1 hx (by rw [← e, hxs])
      by_cases hc : x.seq.tmod l.length = k ∧ (upto l k).seq < x.seq
      · rw [if_pos hc]
        have hvx : Valid l k x := ⟨hx, by rw [hs, hxs], hc.1⟩
        refine Or.inr ⟨⟨k, by omega, hvx⟩, fun j y hj hy => ?_⟩
        by_cases e : j = k
        · subst e; rw [hsame y hy]; exact Int.le_refl _
        · rcases ih with ⟨_, h2⟩ | ⟨_, h2⟩
          · exact absurd hy (h2 j y (by omega))
          · have := h2 j y (by omega) hy
            omega
      · rw [if_neg hc]
        have hkx : ∀ y, Valid l k y → y.seq ≤ (upto l k).seq := fun y hv => by
          have e := hsame y hv
          subst e
          have h3 := hv.2.2
          have : ¬ (upto l k).seq < y.seq := fun h => hc ⟨h3, h⟩
          omega
        rcases ih with ⟨h1, h2⟩ | ⟨⟨i, hi, hv⟩, h2⟩
        · refine Or.inl ⟨h1, fun j y hj hy => ?_⟩
          by_cases e : j = k
          · subst e
            have h3 := hkx y hy
            have h4 := hy.1.1
            rw [h1] at h3
            have : (none : Rc).seq = 0 := rfl
            omega
          · exact h2 j y (by omega) hy
        · refine Or.inr ⟨⟨i, by omega, hv⟩, fun j y hj hy => ?_⟩
          by_cases e : j = k
          · subst e; exact hkx y hy
          · exact h2 j y (by omega) hy
theorem valid_lt {l : List (List UInt8)} {i : Nat} {x : Rc} (h : Valid l i x) : i < l.length := (List.getElem?_eq_some_iff.1 h.2.1).1
theorem lastOf_is {l : List (List UInt8)} {x : Rc} (h : IsLast l x) : lastOf l = x := by
  obtain ⟨⟨i, hv⟩, hm⟩ := h
  rcases upto_spec l l.length (Nat.le_refl _) with ⟨_, h2⟩ | ⟨⟨j, hj, hw⟩, h2⟩
  · exact absurd hv (h2 i x (valid_lt hv))
  · have a := h2 i x (valid_lt hv) hv
    have b := hm j _ hw
    have e : (upto l l.length).seq = x.seq := by omega
    have hij : j = i := by
      have e1 := hw.2.2
      have e2 := hv.2.2
      rw [e] at e1
      omega
    subst hij
    exact valid_same hw hv
theorem last_of {d : Dk} (hr : K.right d) (hd : d.down = false) {x : Rc} (h : IsLast d.secs x) : last d = (x, 0) := by
  rw [last_is hr hd, lastOf_is h, if_neg]
  obtain ⟨⟨i, hv⟩, _⟩ := h
  have := hv.1.1
  omega
theorem whole_last {l : List (List UInt8)} {y : Rc} (hy : may y) (hn : 0 < l.length) (h : ∀ j z, Valid l j z → z.seq < y.seq) : IsLast (l.set (y.seq.tmod l.length).toNat (sec y)) y := by
  have h1 : 0 ≤ y.seq.tmod l.length := Int.tmod_nonneg _ (by have := hy.1; omega)
  have h2 : y.seq.tmod l.length < l.length := Int.tmod_lt_of_pos _ (by omega)
  refine ⟨⟨(y.seq.tmod l.length).toNat, hy, by rw [List.getElem?_set_self (by omega)], by rw [List.length_set]; omega⟩, fun j z hz => ?_⟩
  by_cases e : j = (y.seq.tmod l.length).toNat
  · have e2 := hz.2.1
    rw [e, List.getElem?_set_self (by omega)] at e2
    injection e2 with e2
    rw [sec_inj hz.1 hy e2.symm]
    exact Int.le_refl _
  · have h3 : Valid l j z := ⟨hz.1, by have := hz.2.1; rwa [List.getElem?_set_ne (by omega)] at this, by have := hz.2.2; rwa [List.length_set] at this⟩
    exact Int.le_of_lt (h j z h3)
theorem torn_last {l : List (List UInt8)} {x : Rc} (h : IsLast l x) {p : Nat} {t : List UInt8} (ht : t[63]? ≠ some 165) (hp : x.seq.tmod l.length ≠ p) : IsLast (l.set p t) x := by
  obtain ⟨⟨i, hv⟩, hm⟩ := h
  have hip : i ≠ p := fun e => hp (by rw [hv.2.2, e])
  refine ⟨⟨i, hv.1, by rw [List.getElem?_set_ne (by omega)]; exact hv.2.1, by rw [List.length_set]; exact hv.2.2⟩, fun j z hz => ?_⟩
  have hl : j < (l.set p t).length := valid_lt hz
  rw [List.length_set] at hl
  by_cases e : j = p
  · subst e
    have e2 := hz.2.1
    rw [List.getElem?_set_self hl] at e2
    injection e2 with e2
    exact absurd (e2 ▸ sec_last hz.1) ht
  · exact hm j z ⟨hz.1, by have := hz.2.1; rwa [List.getElem?_set_ne (by omega)] at this, by have := hz.2.2; rwa [List.length_set] at this⟩
theorem next_place {q : Int} {n : Nat} (hq : 0 ≤ q) (hn : 2 ≤ n) : q.tmod n ≠ (((q + 1).tmod n).toNat : Nat) := by
  have h1 : 0 ≤ (q + 1).tmod n := Int.tmod_nonneg _ (by omega)
  rw [Int.tmod_eq_emod_of_nonneg hq]
  rw [Int.tmod_eq_emod_of_nonneg (show 0 ≤ q + 1 by omega)] at h1 ⊢
  have e : (((q + 1) % (n : Int)).toNat : Int) = (q + 1) % n := by omega
  rw [e]
  intro h
  have h2 : (q + 1 - q) % (n : Int) = 0 := Int.emod_eq_zero_of_dvd (Int.dvd_of_emod_eq_zero (Int.emod_emod_of_dvd _ (Int.dvd_refl _) ▸ by rw [Int.sub_emod, ← h]; simp))
  rw [show q + 1 - q = 1 by omega] at h2
  rw [Int.emod_eq_of_lt (by omega) (by omega)] at h2
  omega
/-- what a write leaves: the record under way as a whole, or the one that was there -/
theorem write_cases {d : Dk} {x : Rc} {gen : Int} {note : List UInt8} (hr : K.right d) (hd : d.down = false) (hl : IsLast d.secs x) (hn : 2 ≤ d.secs.length) (h1 : x.gen ≤ gen) (h2 : gen ≤ 1099511627776) (h3 : note.length ≤ 30) (h4 : x.seq < 1099511627776) :
    ∃ d' r er, write d gen note = (d', r, er) ∧ d'.secs.length = d.secs.length ∧ -1 ≤ d'.fuse ∧ d'.fuse ≤ d.fuse ∧ ((er = 0 ∧ r = ⟨x.seq + 1, gen, note⟩ ∧ d'.down = false ∧ IsLast d'.secs ⟨x.seq + 1, gen, note⟩ ∧ (d.fuse = -1 → d'.fuse = -1) ∧ d'.secs = d.secs.set ((x.seq + 1).tmod d.secs.length).toNat (sec ⟨x.seq + 1, gen, note⟩)) ∨ (er = 9 ∧ r = none ∧ d'.down = true ∧ 0 ≤ d.fuse ∧ IsLast d'.secs x)) := by
  have hx : may x := by obtain ⟨⟨i, hv⟩, _⟩ := hl; exact hv.1
  obtain ⟨x1, x2, x3, x4, x5⟩ := hx
  have hla := last_of hr hd hl
  have hf0 : -1 ≤ d.fuse := hr.2
  rw [write_p hla (by rintro (h | h | h | h) <;> omega) (by omega)]
  have hy : may ⟨x.seq + 1, gen, note⟩ := ⟨by show 1 ≤ x.seq + 1; omega, by show x.seq + 1 ≤ _; omega, by show 1 ≤ gen; omega, h2, h3⟩
  obtain ⟨⟨d', er⟩, hp⟩ : ∃ z, K.put d ((x.seq + 1).tmod d.secs.length) (sec ⟨x.seq + 1, gen, note⟩) = z := ⟨_, rfl⟩
  rw [putr_is hy hp]
  have p0 : 0 ≤ (x.seq + 1).tmod d.secs.length := Int.tmod_nonneg _ (by omega)
  have p1 : (x.seq + 1).tmod d.secs.length < d.secs.length := Int.tmod_lt_of_pos _ (by omega)
  have hpk : (x.seq + 1).tmod d.secs.length = (((x.seq + 1).tmod d.secs.length).toNat : Int) := by omega
  have ha : K.asked d ((x.seq + 1).tmod d.secs.length) = 0 := by rw [hpk]; exact K.asked_in hr hd (by omega)
  have hlt : ∀ j z, Valid d.secs j z → z.seq < (⟨x.seq + 1, gen, note⟩ : Rc).seq := fun j z hz => by have := hl.2 j z hz; show z.seq < x.seq + 1; omega
  by_cases hf : d.fuse = -1 ∨ 64 ≤ d.fuse
  · rw [K.put_yes ha hf] at hp
    injection hp with e1 e2
    subst e2
    refine ⟨d', ⟨x.seq + 1, gen, note⟩, 0, by simp, ?_, ?_, ?_, Or.inl ⟨rfl, rfl, ?_, ?_, ?_, ?_⟩⟩
    · rw [← e1, List.length_set]
    · rw [← e1]; show -1 ≤ (if d.fuse = -1 then -1 else d.fuse - 64); split <;> omega
    · rw [← e1]; show (if d.fuse = -1 then -1 else d.fuse - 64) ≤ _; split <;> omega
    · rw [← e1]; exact hd
    · rw [← e1]; exact whole_last hy (by omega) hlt
    · intro h; rw [← e1]; show (if d.fuse = -1 then -1 else d.fuse - 64) = -1; rw [if_pos h]
    · rw [← e1]
  · rw [K.put_torn ha (k := d.fuse.toNat) (by omega) (by omega)] at hp
    injection hp with e1 e2
    subst e2
    refine ⟨d', none, 9, by simp, ?_, ?_, ?_, Or.inr ⟨rfl, rfl, ?_, by omega, ?_⟩⟩
    · rw [← e1, List.length_set]
    · rw [← e1]; show (-1 : Int) ≤ -1; omega
    · rw [← e1]; exact hf0
    · rw [← e1]
    · rw [← e1]
      refine torn_last hl ?_ (next_place (by omega) hn)
      have hs : (sec ⟨x.seq + 1, gen, note⟩).length = 64 := sec_len hy
      unfold K.torn
      rw [List.getElem?_append_right (by simp; omega)]
      have e : (List.replicate (64 - d.fuse.toNat) (0 : UInt8))[63 - (List.take d.fuse.toNat (sec ⟨x.seq + 1, gen, note⟩)).length]? = some 0 := by
        rw [List.getElem?_replicate, if_pos]
        simp
        omega
      rw [e]
      decide
theorem zero_find : find K.zero = (none, 10) := find_bad (by decide)
theorem set_rep (n k : Nat) : (List.replicate n K.zero).set k K.zero = List.replicate n K.zero := by
  refine List.ext_getElem? fun j => ?_
  by_cases h : k = j
  · subst h
    by_cases hk : k < n
    · rw [List.getElem?_set_self (by simpa using hk), List.getElem?_replicate, if_pos hk]
    · rw [List.getElem?_eq_none (by simp; omega), List.getElem?_eq_none (by simp; omega)]
  · rw [List.getElem?_set_ne h]
/-- a disk of n sectors of zeros -/
def blank (n : Nat) : Dk := ⟨List.replicate n K.zero, -1, false⟩
theorem blank_right {n : Nat} (h : n ≤ 64) : K.right (blank n) := ⟨by simpa [blank] using h, by show (-1 : Int) ≤ -1; omega⟩
theorem new_blank {m : Int} {n : Nat} (e : m = n) (h1 : 1 ≤ n) (h2 : n ≤ 64) : K.new m = (blank n, 0) := by
  unfold K.new blank
  rw [if_neg (by omega), e]
  simp
theorem zeros_blank {n : Nat} (h : n ≤ 64) : ∀ k, k ≤ n → zeros (blank n) k = (blank n, 0)
  | 0, _ => rfl
  | k + 1, hk => by
    have ih := zeros_blank h k (by omega)
    rw [zeros_step (by rw [ih]), ih]
    have ha : K.asked (blank n) (k : Int) = 0 := K.asked_in (blank_right h) rfl (by simp [blank]; omega)
    rw [K.put_yes ha (Or.inl rfl)]
    show ((⟨(List.replicate n K.zero).set (k : Int).toNat K.zero, _, _⟩ : Dk), _) = _
    rw [Int.toNat_natCast, set_rep]
    rfl
theorem blank_valid {n j : Nat} {z : Rc} : ¬ Valid (List.replicate n K.zero) j z := fun h => by
  have e := h.2.1
  rw [List.getElem?_replicate] at e
  split at e
  · injection e with e
    have h1 := sec_last h.1
    rw [← e] at h1
    revert h1
    decide
  · cases e
/-- a first record on a disk of zeros -/
theorem format_blank {n : Nat} {note : List UInt8} (h1 : 2 ≤ n) (h2 : n ≤ 64) (hn : note.length ≤ 30) :
    format (blank n) note = (⟨(List.replicate n K.zero).set 1 (sec ⟨1, 1, note⟩), -1, false⟩, ⟨1, 1, note⟩, 0) ∧ IsLast ((List.replicate n K.zero).set 1 (sec ⟨1, 1, note⟩)) ⟨1, 1, note⟩ := by
  have hy : may ⟨1, 1, note⟩ := ⟨by show (1 : Int) ≤ 1; omega, by show (1 : Int) ≤ _; omega, by show (1 : Int) ≤ 1; omega, by show (1 : Int) ≤ _; omega, hn⟩
  have hl : (blank n).secs.length = n := by simp [blank]
  have e1 : (1 : Int).tmod n = 1 := by rw [Int.tmod_eq_emod_of_nonneg (by omega), Int.emod_eq_of_lt (by omega) (by omega)]
  have hz := zeros_blank h2 n (Nat.le_refl _)
  constructor
  · rw [format_p (y := blank n) (by rintro (h | h | h); exact h (blank_right h2); omega; omega) (by rw [hl]; exact hz)]
    have ha : K.asked (blank n) ((1 : Nat) : Int) = 0 := K.asked_in (blank_right h2) rfl (by rw [hl]; omega)
    rw [putr_is hy (y := ⟨(List.replicate n K.zero).set 1 (sec ⟨1, 1, note⟩), -1, false⟩) (er := 0) (by
      show K.put (blank n) ((1 : Int).tmod (blank n).secs.length) _ = _
      rw [hl, e1]
      exact K.put_yes ha (Or.inl rfl))]
    simp
  · have h := whole_last (l := List.replicate n K.zero) hy (by simp; omega) (fun j z hz => absurd hz blank_valid)
    have e2 : ((⟨1, 1, note⟩ : Rc).seq.tmod (List.replicate n K.zero).length).toNat = 1 := by
      show ((1 : Int).tmod _).toNat = 1
      rw [List.length_replicate, e1]; rfl
    rw [e2] at h
    exact h
end J
end Go.Proofs.Ytipccalbhlhljaa

