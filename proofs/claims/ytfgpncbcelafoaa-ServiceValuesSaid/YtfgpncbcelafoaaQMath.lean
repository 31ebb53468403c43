/- Plain mathematics of quill's numbers: their bytes, how many there are, and how they are taken. -/
import Derived.Below
namespace Go.Proofs.Ytfgpncbcelafoaa
namespace Q

/-- how many bytes a number has (9 at most are asked) -/
def szf : Nat → Nat → Nat
  | 0, _ => 1
  | f + 1, n => if n < 128 then 1 else 1 + szf f (n / 128)
def sz (n : Nat) : Nat := szf 8 n

/-- a number's bytes -/
def encf : Nat → Nat → List Nat
  | 0, n => [n]
  | f + 1, n => if n < 128 then [n] else (n % 128 + 128) :: encf f (n / 128)
def enc (n : Nat) : List Nat := encf 8 n

def may (n : Int) : Prop := 0 ≤ n ∧ n ≤ 4611686018427387904
instance (n : Int) : Decidable (may n) := by unfold may; exact inferInstance
def size (n : Int) : Nat := if may n then sz n.toNat else 0
def bytes (n : Int) : List Nat := if may n then enc n.toNat else []

/-- a number's bytes, as bytes -/
def ub (n : Int) : List UInt8 := (bytes n).map UInt8.ofNat
theorem szf_pos (f n : Nat) : 1 ≤ szf f n := by
  cases f with
  | zero => simp [szf]
  | succ f => simp only [szf]; split <;> omega
theorem szf_le (f n : Nat) : szf f n ≤ f + 1 := by
  induction f generalizing n with
  | zero => simp [szf]
  | succ f ih => simp only [szf]; split; omega; have := ih (n / 128); omega
theorem length_encf (f n : Nat) : (encf f n).length = szf f n := by
  induction f generalizing n with
  | zero => simp [szf, encf]
  | succ f ih => simp only [szf, encf]; split; rfl; simp [ih]; omega
theorem length_enc (n : Nat) : (enc n).length = sz n := length_encf 8 n
theorem length_bytes (n : Int) : (bytes n).length = size n := by
  unfold bytes size; split; exact length_enc _; rfl
theorem size_le (n : Int) : size n ≤ 9 := by
  unfold size; split; exact szf_le 8 _; omega

theorem length_ub (n : Int) : (ub n).length = size n := by simp [ub, length_bytes]
theorem size_pos {n : Int} (h : may n) : 1 ≤ size n := by simp only [size, if_pos h]; exact szf_pos 8 _
/-- the sizes of several, summed; their bytes, one behind the other -/
def sizes (l : List Int) : Nat := (l.map size).sum
def ubs (l : List Int) : List UInt8 := l.flatMap ub
theorem sizes_snoc (l : List Int) (x : Int) : sizes (l ++ [x]) = sizes l + size x := by simp [sizes]
theorem ubs_snoc (l : List Int) (x : Int) : ubs (l ++ [x]) = ubs l ++ ub x := by simp [ubs]
theorem sizes_le (l : List Int) : sizes l ≤ 9 * l.length := by
  induction l with
  | nil => simp [sizes]
  | cons a r ih => have := size_le a; simp only [sizes, List.map_cons, List.sum_cons, List.length_cons] at *; omega
theorem length_ubs (l : List Int) : (ubs l).length = sizes l := by
  induction l with
  | nil => rfl
  | cons a r ih => simp only [ubs, sizes, List.flatMap_cons, List.map_cons, List.sum_cons, List.length_append, length_ub] at *; omega
/-- a text's bytes -/
def txt (s : ByteArray) : List UInt8 := ub s.size ++ s.data.toList
theorem length_txt (s : ByteArray) : (txt s).length = size s.size + s.size := by
  simp only [txt, List.length_append, length_ub]; rfl
/-- a stage of counting: c counted, x left -/
def SzAt (n : Nat) (c x : Nat) : Prop := ∃ f, f ≤ 8 ∧ c = 9 - f ∧ x < 128 ^ (f + 1) ∧ szf 8 n = 8 - f + szf f x
theorem szAt_start (n : Nat) (h : n ≤ 4611686018427387904) : SzAt n 1 n := ⟨8, by omega, by omega, by simp only [Nat.reducePow, Nat.reduceAdd]; omega, by omega⟩
theorem szAt_step {n c x : Nat} (h : SzAt n c x) (hx : 127 < x) : SzAt n (c + 1) (x / 128) := by
  obtain ⟨f, hf, rfl, hb, he⟩ := h
  cases f with
  | zero => simp only [Nat.reduceAdd, Nat.pow_one] at hb; omega
  | succ f =>
    refine ⟨f, by omega, by omega, ?_, ?_⟩
    · have : x < 128 ^ (f + 1) * 128 := by rw [← Nat.pow_succ]; exact hb
      omega
    · rw [he]; simp only [szf]; rw [if_neg (by omega)]; omega
theorem szAt_end {n c x : Nat} (h : SzAt n c x) (hx : x < 128) : sz n = c := by
  obtain ⟨f, hf, rfl, hb, he⟩ := h
  unfold sz; rw [he]
  cases f with
  | zero => simp [szf]
  | succ f => simp only [szf]; rw [if_pos hx]; omega
theorem szAt_le {n c x : Nat} (h : SzAt n c x) : c ≤ 9 ∧ x ≤ 9223372036854775807 := by
  obtain ⟨f, hf, rfl, hb, he⟩ := h
  refine ⟨by omega, ?_⟩
  have : 128 ^ (f + 1) ≤ 128 ^ (8 + 1) := Nat.pow_le_pow_right (by omega) (by omega)
  simp only [Nat.reduceAdd, Nat.reducePow] at this
  omega

/-- a stage of laying: l laid, x left -/
def LayAt (n : Nat) (l : List Nat) (x : Nat) : Prop := ∃ f, f ≤ 8 ∧ l.length = 8 - f ∧ x < 128 ^ (f + 1) ∧ encf 8 n = l ++ encf f x
theorem layAt_start (n : Nat) (h : n ≤ 4611686018427387904) : LayAt n [] n := ⟨8, by omega, rfl, by simp only [Nat.reducePow, Nat.reduceAdd]; omega, rfl⟩
theorem layAt_step {n x : Nat} {l : List Nat} (h : LayAt n l x) (hx : 127 < x) : LayAt n (l ++ [x % 128 + 128]) (x / 128) := by
  obtain ⟨f, hf, hl, hb, he⟩ := h
  cases f with
  | zero => simp only [Nat.reduceAdd, Nat.pow_one] at hb; omega
  | succ f =>
    refine ⟨f, by omega, by simp; omega, ?_, ?_⟩
    · have : x < 128 ^ (f + 1) * 128 := by rw [← Nat.pow_succ]; exact hb
      omega
    · rw [he]; simp only [encf]; rw [if_neg (by omega)]; simp
theorem layAt_end {n x : Nat} {l : List Nat} (h : LayAt n l x) (hx : x < 128) : enc n = l ++ [x] := by
  obtain ⟨f, hf, hl, hb, he⟩ := h
  unfold enc; rw [he]
  cases f with
  | zero => simp [encf]
  | succ f => simp only [encf]; rw [if_pos hx]
theorem layAt_le {n x : Nat} {l : List Nat} (h : LayAt n l x) : l.length ≤ 8 ∧ x ≤ 9223372036854775807 := by
  obtain ⟨f, hf, hl, hb, he⟩ := h
  refine ⟨by omega, ?_⟩
  have : 128 ^ (f + 1) ≤ 128 ^ (8 + 1) := Nat.pow_le_pow_right (by omega) (by omega)
  simp only [Nat.reduceAdd, Nat.reducePow] at this
  omega
theorem ub_end {n : Int} {x : Nat} {l : List Nat} (hn : may n) (h : LayAt n.toNat l x) (hx : x < 128) : ub n = l.map UInt8.ofNat ++ [UInt8.ofNat x] ∧ size n = l.length + 1 := by
  have e := layAt_end h hx
  refine ⟨by simp [ub, bytes, hn, e], ?_⟩
  simp only [size, if_pos hn, ← length_enc, e]; simp

/-! ### Taking -/
/-- (the error's number, the number, how many bytes) -/
def tk : Nat → Nat → Nat → Nat → List UInt8 → Nat × Nat × Nat
  | 0, _, _, _, _ => (3, 0, 0)
  | _ + 1, _, _, _, [] => (2, 0, 0)
  | f + 1, c, acc, unit, x :: r =>
    if 128 ≤ x.toNat then tk f (c + 1) (acc + x.toNat % 128 * unit) (unit * 128) r
    else if size ((acc + x.toNat % 128 * unit : Nat) : Int) = c + 1 then (0, acc + x.toNat % 128 * unit, c + 1) else (3, 0, 0)
def take (l : List UInt8) : Nat × Nat × Nat := tk 9 0 0 1 l
/-- what is behind -/
def rest (l : List UInt8) : List UInt8 := if (take l).1 = 0 then l.drop (take l).2.2 else []
/-- a stage of taking: k bytes read, which sum up to acc -/
def TakeAt (l : List UInt8) (k acc : Nat) : Prop := k ≤ 9 ∧ acc < 128 ^ k ∧ take l = tk (9 - k) k acc (128 ^ k) (l.drop k)
theorem takeAt_start (l : List UInt8) : TakeAt l 0 0 := ⟨by omega, by omega, rfl⟩
theorem takeAt_acc {l : List UInt8} {k acc : Nat} (h : TakeAt l k acc) : acc < 9223372036854775808 := by
  obtain ⟨h1, h2, _⟩ := h
  have : 128 ^ k ≤ 128 ^ 9 := Nat.pow_le_pow_right (by omega) h1
  simp only [Nat.reducePow] at this
  omega
theorem takeAt_unit {k : Nat} (h : k ≤ 8) : 128 ^ k ≤ 72057594037927936 := by
  have : 128 ^ k ≤ 128 ^ 8 := Nat.pow_le_pow_right (by omega) h
  simpa using this
theorem takeAt_next {k acc x : Nat} (h : acc < 128 ^ k) : acc + x % 128 * 128 ^ k < 128 ^ (k + 1) := by
  rw [Nat.pow_succ]
  have h1 : x % 128 ≤ 127 := by omega
  have h2 : x % 128 * 128 ^ k ≤ 127 * 128 ^ k := Nat.mul_le_mul_right _ h1
  omega
theorem takeAt_more {l : List UInt8} {k acc : Nat} {x : UInt8} (h : TakeAt l k acc) (hk : k < 9) (hx : l[k]? = some x) (hb : 128 ≤ x.toNat) : TakeAt l (k + 1) (acc + x.toNat % 128 * 128 ^ k) := by
  obtain ⟨h1, h2, h3⟩ := h
  have hd : l.drop k = x :: l.drop (k + 1) := by
    have hlt : k < l.length := by
      rcases Nat.lt_or_ge k l.length with h | h
      · exact h
      · rw [List.getElem?_eq_none h] at hx; cases hx
    rw [List.drop_eq_getElem_cons hlt]
    rw [List.getElem?_eq_getElem hlt] at hx
    injection hx with hx; rw [hx]
  refine ⟨by omega, takeAt_next h2, ?_⟩
  rw [h3, hd, show 9 - k = (9 - (k + 1)) + 1 by omega]
  simp only [tk]
  rw [if_pos hb, Nat.pow_succ]
theorem takeAt_short {l : List UInt8} {k acc : Nat} (h : TakeAt l k acc) (hk : k < 9) (hl : l.length ≤ k) : take l = (2, 0, 0) := by
  obtain ⟨h1, h2, h3⟩ := h
  rw [h3, List.drop_of_length_le hl, show 9 - k = (9 - (k + 1)) + 1 by omega]; rfl
theorem takeAt_long {l : List UInt8} {acc : Nat} (h : TakeAt l 9 acc) : take l = (3, 0, 0) := by
  obtain ⟨h1, h2, h3⟩ := h
  rw [h3]; rfl
theorem takeAt_end {l : List UInt8} {k acc : Nat} {x : UInt8} (h : TakeAt l k acc) (hk : k < 9) (hx : l[k]? = some x) (hb : x.toNat < 128) :
    take l = if size ((acc + x.toNat % 128 * 128 ^ k : Nat) : Int) = k + 1 then (0, acc + x.toNat % 128 * 128 ^ k, k + 1) else (3, 0, 0) := by
  obtain ⟨h1, h2, h3⟩ := h
  have hd : l.drop k = x :: l.drop (k + 1) := by
    have hlt : k < l.length := by
      rcases Nat.lt_or_ge k l.length with h | h
      · exact h
      · rw [List.getElem?_eq_none h] at hx; cases hx
    rw [List.drop_eq_getElem_cons hlt]
    rw [List.getElem?_eq_getElem hlt] at hx
    injection hx with hx; rw [hx]
  rw [h3, hd, show 9 - k = (9 - (k + 1)) + 1 by omega]
  simp only [tk]
  rw [if_neg (by omega)]

/-- (the error's number, the text, what is behind) -/
def taketext (l : List UInt8) (most : Int) : Nat × List UInt8 × List UInt8 :=
  if (take l).1 ≠ 0 then ((take l).1, [], [])
  else if most < (take l).2.1 then (4, [], [])
  else if (rest l).length < (take l).2.1 then (2, [], [])
  else (0, (rest l).take (take l).2.1, (rest l).drop (take l).2.1)

end Q
end Go.Proofs.Ytfgpncbcelafoaa
