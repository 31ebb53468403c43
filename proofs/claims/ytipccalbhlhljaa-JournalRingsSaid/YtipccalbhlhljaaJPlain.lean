/- QMath QMath2 SMath SCode FMath KMath KLen JMath JMath2 (merged). -/
import Derived.Below
import Derived.Test.YtipccalbhlhljaaJMem
namespace Go.Proofs.Ytipccalbhlhljaa
namespace Q

/-- how many bytes a number has (9 at most are asked) -/
def szf : Nat → Nat → Nat
  | 0, _ => 1
  | f + 1, n => if n < 128 then 1 else 1 + szf f (n / 128)
def sz (n : Nat) : Nat := szf 8 n

/-- a number's bytes -/
def encf : Nat → Nat → List Nat
  | 0, n => [n]
  | f + 1, n => if n < 128 then [n] else (n % 128 + 128) :: encf f (n / 128)
def enc (n : Nat) : List Nat := encf 8 n

def may (n : Int) : Prop := 0 ≤ n ∧ n ≤ 4611686018427387904
instance (n : Int) : Decidable (may n) := by unfold may; exact inferInstance
def size (n : Int) : Nat := if may n then sz n.toNat else 0
def bytes (n : Int) : List Nat := if may n then enc n.toNat else []

/-- a number's bytes, as bytes -/
def ub (n : Int) : List UInt8 := (bytes n).map UInt8.ofNat
theorem szf_pos (f n : Nat) : 1 ≤ szf f n := by
  cases f with
  | zero => simp [szf]
  | succ f => simp only [szf]; split <;> omega
theorem szf_le (f n : Nat) : szf f n ≤ f + 1 := by
  induction f generalizing n with
  | zero => simp [szf]
  | succ f ih => simp only [szf]; split; omega; have := ih (n / 128); omega
theorem length_encf (f n : Nat) : (encf f n).length = szf f n := by
  induction f generalizing n with
  | zero => simp [szf, encf]
  | succ f ih => simp only [szf, encf]; split; rfl; simp [ih]; omega
theorem length_enc (n : Nat) : (enc n).length = sz n := length_encf 8 n
theorem length_bytes (n : Int) : (bytes n).length = size n := by
  unfold bytes size; split; exact length_enc _; rfl
theorem size_le (n : Int) : size n ≤ 9 := by
  unfold size; split; exact szf_le 8 _; omega

theorem length_ub (n : Int) : (ub n).length = size n := by simp [ub, length_bytes]
theorem size_pos {n : Int} (h : may n) : 1 ≤ size n := by simp only [size, if_pos h]; exact szf_pos 8 _
/-- the sizes of several, summed; their bytes, one behind the other -/
def sizes (l : List Int) : Nat := (l.map size).sum
def ubs (l : List Int) : List UInt8 := l.flatMap ub
theorem sizes_snoc (l : List Int) (x : Int) : sizes (l ++ [x]) = sizes l + size x := by simp [sizes]
theorem ubs_snoc (l : List Int) (x : Int) : ubs (l ++ [x]) = ubs l ++ ub x := by simp [ubs]
theorem sizes_le (l : List Int) : sizes l ≤ 9 * l.length := by
  induction l with
  | nil => simp [sizes]
  | cons a r ih => have := size_le a; simp only [sizes, List.map_cons, List.sum_cons, List.length_cons] at *; omega
/-- a text's bytes -/
def txt (s : ByteArray) : List UInt8 := ub s.size ++ s.data.toList
theorem length_txt (s : ByteArray) : (txt s).length = size s.size + s.size := by
  simp only [txt, List.length_append, length_ub]; rfl
/-- a stage of counting: c counted, x left -/
def SzAt (n : Nat) (c x : Nat) : Prop := ∃ f, f ≤ 8 ∧ c = 9 - f ∧ x < 128 ^ (f + 1) ∧ szf 8 n = 8 - f + szf f x
theorem szAt_start (n : Nat) (h : n ≤ 4611686018427387904) : SzAt n 1 n := ⟨8, by omega, by omega, by simp only [Nat.reducePow, Nat.reduceAdd]; omega, by omega⟩
theorem szAt_step {n c x : Nat} (h : SzAt n c x) (hx : 127 < x) : SzAt n (c + 1) (x / 128) := by
  obtain ⟨f, hf, rfl, hb, he⟩ := h
  cases f with
  | zero => simp only [Nat.reduceAdd, Nat.pow_one] at hb; omega
  | succ f =>
    refine ⟨f, by omega, by omega, ?_, ?_⟩
    · have : x < 128 ^ (f + 1) * 128 := by rw [← Nat.pow_succ]; exact hb
      omega
    · rw [he]; simp only [szf]; rw [if_neg (by omega)]; omega
theorem szAt_end {n c x : Nat} (h : SzAt n c x) (hx : x < 128) : sz n = c := by
  obtain ⟨f, hf, rfl, hb, he⟩ := h
  unfold sz; rw [he]
  cases f with
  | zero => simp [szf]
  | succ f => simp only [szf]; rw [if_pos hx]; omega
theorem szAt_le {n c x : Nat} (h : SzAt n c x) : c ≤ 9 ∧ x ≤ 9223372036854775807 := by
  obtain ⟨f, hf, rfl, hb, he⟩ := h
  refine ⟨by omega, ?_⟩
  have : 128 ^ (f + 1) ≤ 128 ^ (8 + 1) := Nat.pow_le_pow_right (by omega) (by omega)
  simp only [Nat.reduceAdd, Nat.reducePow] at this
  omega

/-- a stage of laying: l laid, x left -/
def LayAt (n : Nat) (l : List Nat) (x : Nat) : Prop := ∃ f, f ≤ 8 ∧ l.length = 8 - f ∧ x < 128 ^ (f + 1) ∧ encf 8 n = l ++ encf f x
theorem layAt_start (n : Nat) (h : n ≤ 4611686018427387904) : LayAt n [] n := ⟨8, by omega, rfl, by simp only [Nat.reducePow, Nat.reduceAdd]; omega, rfl⟩
theorem layAt_step {n x : Nat} {l : List Nat} (h : LayAt n l x) (hx : 127 < x) : LayAt n (l ++ [x % 128 + 128]) (x / 128) := by
  obtain ⟨f, hf, hl, hb, he⟩ := h
  cases f with
  | zero => simp only [Nat.reduceAdd, Nat.pow_one] at hb; omega
  | succ f =>
    refine ⟨f, by omega, by simp; omega, ?_, ?_⟩
    · have : x < 128 ^ (f + 1) * 128 := by rw [← Nat.pow_succ]; exact hb
      omega
    · rw [he]; simp only [encf]; rw [if_neg (by omega)]; simp
theorem layAt_end {n x : Nat} {l : List Nat} (h : LayAt n l x) (hx : x < 128) : enc n = l ++ [x] := by
  obtain ⟨f, hf, hl, hb, he⟩ := h
  unfold enc; rw [he]
  cases f with
  | zero => simp [encf]
  | succ f => simp only [encf]; rw [if_pos hx]
theorem layAt_le {n x : Nat} {l : List Nat} (h : LayAt n l x) : l.length ≤ 8 ∧ x ≤ 9223372036854775807 := by
  obtain ⟨f, hf, hl, hb, he⟩ := h
  refine ⟨by omega, ?_⟩
  have : 128 ^ (f + 1) ≤ 128 ^ (8 + 1) := Nat.pow_le_pow_right (by omega) (by omega)
  simp only [Nat.reduceAdd, Nat.reducePow] at this
  omega
theorem ub_end {n : Int} {x : Nat} {l : List Nat} (hn : may n) (h : LayAt n.toNat l x) (hx : x < 128) : ub n = l.map UInt8.ofNat ++ [UInt8.ofNat x] ∧ size n = l.length + 1 := by
  have e := layAt_end h hx
  refine ⟨by simp [ub, bytes, hn, e], ?_⟩
  simp only [size, if_pos hn, ← length_enc, e]; simp

/-! ### Taking -/
/-- (the error's number, the number, how many bytes) -/
def tk : Nat → Nat → Nat → Nat → List UInt8 → Nat × Nat × Nat
  | 0, _, _, _, _ => (3, 0, 0)
  | _ + 1, _, _, _, [] => (2, 0, 0)
  | f + 1, c, acc, unit, x :: r =>
    if 128 ≤ x.toNat then tk f (c + 1) (acc + x.toNat % 128 * unit) (unit * 128) r
    else if size ((acc + x.toNat % 128 * unit : Nat) : Int) = c + 1 then (0, acc + x.toNat % 128 * unit, c + 1) else (3, 0, 0)
def take (l : List UInt8) : Nat × Nat × Nat := tk 9 0 0 1 l
/-- what is behind -/
def rest (l : List UInt8) : List UInt8 := if (take l).1 = 0 then l.drop (take l).2.2 else []
/-- a stage of taking: k bytes read, which sum up to acc -/
def TakeAt (l : List UInt8) (k acc : Nat) : Prop := k ≤ 9 ∧ acc < 128 ^ k ∧ take l = tk (9 - k) k acc (128 ^ k) (l.drop k)
theorem takeAt_start (l : List UInt8) : TakeAt l 0 0 := ⟨by omega, by omega, rfl⟩
theorem takeAt_acc {l : List UInt8} {k acc : Nat} (h : TakeAt l k acc) : acc < 9223372036854775808 := by
  obtain ⟨h1, h2, _⟩ := h
  have : 128 ^ k ≤ 128 ^ 9 := Nat.pow_le_pow_right (by omega) h1
  simp only [Nat.reducePow] at this
  omega
theorem takeAt_unit {k : Nat} (h : k ≤ 8) : 128 ^ k ≤ 72057594037927936 := by
  have : 128 ^ k ≤ 128 ^ 8 := Nat.pow_le_pow_right (by omega) h
  simpa using this
theorem takeAt_next {k acc x : Nat} (h : acc < 128 ^ k) : acc + x % 128 * 128 ^ k < 128 ^ (k + 1) := by
  rw [Nat.pow_succ]
  have h1 : x % 128 ≤ 127 := by omega
  have h2 : x % 128 * 128 ^ k ≤ 127 * 128 ^ k := Nat.mul_le_mul_right _ h1
  omega
theorem takeAt_more {l : List UInt8} {k acc : Nat} {x : UInt8} (h : TakeAt l k acc) (hk : k < 9) (hx : l[k]? = some x) (hb : 128 ≤ x.toNat) : TakeAt l (k + 1) (acc + x.toNat % 128 * 128 ^ k) := by
  obtain ⟨h1, h2, h3⟩ := h
  have hd : l.drop k = x :: l.drop (k + 1) := by
    have hlt : k < l.length := by
      rcases Nat.lt_or_ge k l.length with h | h
      · exact h
      · rw [List.getElem?_eq_none h] at hx; cases hx
    rw [List.drop_eq_getElem_cons hlt]
    rw [List.getElem?_eq_getElem hlt] at hx
    injection hx with hx; rw [hx]
  refine ⟨by omega, takeAt_next h2, ?_⟩
  rw [h3, hd, show 9 - k = (9 - (k + 1)) + 1 by omega]
  simp only [tk]
  rw [if_pos hb, Nat.pow_succ]
theorem takeAt_short {l : List UInt8} {k acc : Nat} (h : TakeAt l k acc) (hk : k < 9) (hl : l.length ≤ k) : take l = (2, 0, 0) := by
  obtain ⟨h1, h2, h3⟩ := h
  rw [h3, List.drop_of_length_le hl, show 9 - k = (9 - (k + 1)) + 1 by omega]; rfl
theorem takeAt_long {l : List UInt8} {acc : Nat} (h : TakeAt l 9 acc) : take l = (3, 0, 0) := by
  obtain ⟨h1, h2, h3⟩ := h
  rw [h3]; rfl
theorem takeAt_end {l : List UInt8} {k acc : Nat} {x : UInt8} (h : TakeAt l k acc) (hk : k < 9) (hx : l[k]? = some x) (hb : x.toNat < 128) :
    take l = if size ((acc + x.toNat % 128 * 128 ^ k : Nat) : Int) = k + 1 then (0, acc + x.toNat % 128 * 128 ^ k, k + 1) else (3, 0, 0) := by
  obtain ⟨h1, h2, h3⟩ := h
  have hd : l.drop k = x :: l.drop (k + 1) := by
    have hlt : k < l.length := by
      rcases Nat.lt_or_ge k l.length with h | h
      · exact h
      · rw [List.getElem?_eq_none h] at hx; cases hx
    rw [List.drop_eq_getElem_cons hlt]
    rw [List.getElem?_eq_getElem hlt] at hx
    injection hx with hx; rw [hx]
  rw [h3, hd, show 9 - k = (9 - (k + 1)) + 1 by omega]
  simp only [tk]
  rw [if_neg (by omega)]

/-- (the error's number, the text, what is behind) -/
def taketext (l : List UInt8) (most : Int) : Nat × List UInt8 × List UInt8 :=
  if (take l).1 ≠ 0 then ((take l).1, [], [])
  else if most < (take l).2.1 then (4, [], [])
  else if (rest l).length < (take l).2.1 then (2, [], [])
  else (0, (rest l).take (take l).2.1, (rest l).drop (take l).2.1)

end Q
end Go.Proofs.Ytipccalbhlhljaa

namespace Go.Proofs.Ytipccalbhlhljaa
namespace Q

theorem tk_enc (f : Nat) : ∀ (c acc unit m : Nat) (more : List UInt8), m < 128 ^ (f + 1) →
    tk (f + 1) c acc unit ((encf f m).map UInt8.ofNat ++ more) = if size ((acc + m * unit : Nat) : Int) = c + szf f m then (0, acc + m * unit, c + szf f m) else (3, 0, 0) := by
  induction f with
  | zero =>
    intro c acc unit m more hm
    have hm : m < 128 := by simpa using hm
    simp only [encf, szf, List.map_cons, List.map_nil, List.cons_append, List.nil_append, tk]
    rw [UInt8.toNat_ofNat', Nat.mod_eq_of_lt (show m < 2 ^ 8 by omega), Nat.mod_eq_of_lt hm, if_neg (by omega)]
    rfl
  | succ f ih =>
    intro c acc unit m more hm
    by_cases h : m < 128
    · simp only [encf, szf, if_pos h, List.map_cons, List.map_nil, List.cons_append, List.nil_append]
      rw [tk]
      rw [UInt8.toNat_ofNat', Nat.mod_eq_of_lt (show m < 2 ^ 8 by omega), Nat.mod_eq_of_lt h, if_neg (by omega)]
    · simp only [encf, szf, if_neg h, List.map_cons, List.cons_append]
      rw [tk]
      rw [UInt8.toNat_ofNat', Nat.mod_eq_of_lt (show m % 128 + 128 < 2 ^ 8 by omega), if_pos (by omega)]
      rw [ih (c + 1) _ _ (m / 128) more (by rw [Nat.pow_succ] at hm; omega)]
      have e : acc + (m % 128 + 128) % 128 * unit + m / 128 * (unit * 128) = acc + m * unit := by
        have h1 : (m % 128 + 128) % 128 = m % 128 := by omega
        have h2 : m = m % 128 + 128 * (m / 128) := by omega
        rw [h1]
        conv => rhs; rw [h2]
        rw [Nat.add_mul, Nat.mul_comm unit 128, ← Nat.mul_assoc, Nat.mul_comm (m / 128) 128]
        omega
      rw [e, Nat.add_assoc]

theorem take_ub {n : Int} (h : may n) (more : List UInt8) : take (ub n ++ more) = (0, n.toNat, size n) := by
  have hs : size n = szf 8 n.toNat := by simp [size, sz, h]
  have hn : ((n.toNat : Nat) : Int) = n := Int.toNat_of_nonneg h.1
  unfold take ub bytes
  rw [if_pos h, enc, tk_enc 8 0 0 1 n.toNat more (by have := h.2; simp only [Nat.reduceAdd, Nat.reducePow]; omega)]
  rw [Nat.zero_add, Nat.mul_one, Nat.zero_add, hn, if_pos hs, hs]
theorem rest_ub {n : Int} (h : may n) (more : List UInt8) : rest (ub n ++ more) = more := by
  unfold rest
  rw [take_ub h]
  simp only [if_true]
  rw [← length_ub, List.drop_left]

theorem szf_mono (f : Nat) : ∀ a b, a ≤ b → szf f a ≤ szf f b := by
  induction f with
  | zero => intro a b _; simp [szf]
  | succ f ih =>
    intro a b h
    simp only [szf]
    have h1 := szf_pos f (b / 128)
    have h2 := ih (a / 128) (b / 128) (by omega)
    split <;> split <;> omega
theorem size_mono {a b : Int} (ha : may a) (hb : may b) (h : a ≤ b) : size a ≤ size b := by
  simp only [size, if_pos ha, if_pos hb, sz]
  exact szf_mono 8 _ _ (by omega)

/-! ### What is taken was laid -/
def val : List UInt8 → UInt8 → Nat
  | [], x => x.toNat
  | y :: p, x => y.toNat % 128 + 128 * val p x
theorem tk_val (f : Nat) : ∀ (c acc unit : Nat) (l : List UInt8) (N k : Nat), tk f c acc unit l = (0, N, k) →
    ∃ p x r, l = p ++ x :: r ∧ (∀ y ∈ p, 128 ≤ y.toNat) ∧ x.toNat < 128 ∧ N = acc + unit * val p x ∧ k = c + p.length + 1 ∧ size (N : Int) = k ∧ p.length < f := by
  induction f with
  | zero => intro c acc unit l N k h; simp [tk] at h
  | succ f ih =>
    intro c acc unit l N k h
    cases l with
    | nil => simp [tk] at h
    | cons y r =>
      rw [tk] at h
      split at h
      · rename_i hy
        obtain ⟨p, x, r', e1, e2, e3, e4, e5, e6, e7⟩ := ih _ _ _ _ _ _ h
        refine ⟨y :: p, x, r', by rw [e1]; rfl, ?_, e3, ?_, by simp; omega, e6, by simp; omega⟩
        · intro z hz
          rcases List.mem_cons.1 hz with rfl | hz
          · exact hy
          · exact e2 z hz
        · rw [e4, val, Nat.mul_add, Nat.mul_assoc, ← Nat.mul_comm unit]; omega
      · rename_i hy
        split at h
        · rename_i hs
          simp only [Prod.mk.injEq, true_and] at h
          obtain ⟨rfl, rfl⟩ := h
          refine ⟨[], y, r, rfl, by simp, by omega, ?_, by simp, hs, by simp⟩
          rw [val, Nat.mod_eq_of_lt (by omega), Nat.mul_comm]
        · simp at h
theorem encf_val (x : UInt8) (hx : x.toNat < 128) : ∀ (p : List UInt8) (f : Nat), p.length ≤ f → (∀ y ∈ p, 128 ≤ y.toNat) → szf f (val p x) = p.length + 1 → encf f (val p x) = p.map UInt8.toNat ++ [x.toNat] := by
  intro p
  induction p with
  | nil =>
    intro f _ _ _
    cases f with
    | zero => simp [encf, val]
    | succ f => simp [encf, val, hx]
  | cons y p ih =>
    intro f hf hy hs
    cases f with
    | zero => simp at hf
    | succ f =>
      have hb := hy y (by simp)
      have hl : y.toNat < 256 := UInt8.toNat_lt y
      simp only [val, List.length_cons] at hs hf ⊢
      simp only [szf] at hs
      have h1 : (y.toNat % 128 + 128 * val p x) / 128 = val p x := by omega
      have h2 : (y.toNat % 128 + 128 * val p x) % 128 = y.toNat % 128 := by omega
      simp only [encf]
      split at hs
      · omega
      · rename_i hn
        rw [if_neg hn, h1, h2]
        rw [h1] at hs
        rw [ih f (by omega) (fun z hz => hy z (by simp [hz])) (by omega)]
        simp only [List.map_cons, List.cons_append]
        congr 1
        omega
theorem size_may {N : Nat} (h : size (N : Int) ≠ 0) : may (N : Int) := by
  by_cases hm : may (N : Int)
  · exact hm
  · simp [size, hm] at h
/-- what was taken has just those bytes -/
theorem take_once {l : List UInt8} {N k : Nat} (h : take l = (0, N, k)) : may (N : Int) ∧ size (N : Int) = k ∧ 1 ≤ k ∧ k ≤ 9 ∧ k ≤ l.length ∧ ub (N : Int) = l.take k := by
  obtain ⟨p, x, r, e1, e2, e3, e4, e5, e6, e7⟩ := tk_val 9 0 0 1 l N k h
  simp only [Nat.zero_add, Nat.one_mul] at e4 e5
  subst e4
  have hm : may ((val p x : Nat) : Int) := size_may (by omega)
  refine ⟨hm, e6, by omega, by omega, by rw [e1]; simp; omega, ?_⟩
  have hs : szf 8 (val p x) = p.length + 1 := by
    have : size ((val p x : Nat) : Int) = szf 8 (val p x) := by simp [size, sz, hm]
    omega
  have he := encf_val x e3 p 8 (by omega) e2 hs
  simp only [ub, bytes, if_pos hm, enc, Int.toNat_natCast]
  rw [he, e1, e5]
  have h0 : ∀ y : UInt8, UInt8.ofNat y.toNat = y := fun y => by simp
  simp only [List.map_append, List.map_map, List.map_cons, List.map_nil, h0]
  have : (p.map (UInt8.ofNat ∘ UInt8.toNat)) = p := (List.map_congr_left (fun y _ => h0 y)).trans (List.map_id p)
  rw [this]
  have : p ++ x :: r = (p ++ [x]) ++ r := by simp
  rw [this, List.take_left' (by simp)]
theorem tk_err (f : Nat) : ∀ (c acc unit : Nat) (l : List UInt8), (tk f c acc unit l).1 ≠ 0 → (tk f c acc unit l).2 = (0, 0) := by
  induction f with
  | zero => intro c acc unit l _; rfl
  | succ f ih =>
    intro c acc unit l h
    cases l with
    | nil => rfl
    | cons y r =>
      rw [tk] at h ⊢
      split at h
      · rename_i hy; rw [if_pos hy]; exact ih _ _ _ _ h
      · rename_i hy
        rw [if_neg hy]
        split at h
        · exact absurd rfl h
        · rename_i hs; rw [if_neg hs]
theorem take_err {l : List UInt8} (h : (take l).1 ≠ 0) : (take l).2.1 = 0 ∧ rest l = [] := by
  refine ⟨?_, by simp [rest, h]⟩
  have := tk_err 9 0 0 1 l h
  show (tk 9 0 0 1 l).2.1 = 0
  rw [this]
/-- a text is taken as it was laid -/
theorem taketext_txt (s : ByteArray) (most : Int) (h : (s.size : Int) ≤ most) (h2 : s.size ≤ 4611686018427387904) (more : List UInt8) : taketext (txt s ++ more) most = (0, s.data.toList, more) := by
  have hm : may (s.size : Int) := ⟨by omega, by omega⟩
  have e : txt s ++ more = ub s.size ++ (s.data.toList ++ more) := by simp [txt]
  have hl : s.data.toList.length = s.size := rfl
  unfold taketext
  rw [e, take_ub hm, rest_ub hm]
  simp only [ne_eq, not_true, if_false, Int.toNat_natCast]
  rw [if_neg (by omega), if_neg (by rw [List.length_append]; omega), ← hl, List.take_left, List.drop_left]

end Q
end Go.Proofs.Ytipccalbhlhljaa

namespace Go.Proofs.Ytipccalbhlhljaa
namespace S

/-- one place further down -/
def T (s : Nat) : Nat := s / 2 ^^^ (if s % 2 = 1 then 2197175160 else 0)
def Tn : Nat → Nat → Nat
  | 0, s => s
  | n + 1, s => Tn n (T s)
/-- all bytes from a number on; a text's sum -/
def crc (s : Nat) (l : List UInt8) : Nat := l.foldl (fun s x => Tn 8 (s ^^^ x.toNat)) s
def sum (l : List UInt8) : Nat := 4294967295 - crc 4294967295 l
/-- four bytes of a number -/
def four (s : Nat) : List UInt8 := [UInt8.ofNat s, UInt8.ofNat (s / 256), UInt8.ofNat (s / 65536), UInt8.ofNat (s / 16777216)]
def sealed (l : List UInt8) : List UInt8 := l ++ four (sum l)
/-- whether a text is sealed -/
def ok (l : List UInt8) : Prop := 4 ≤ l.length ∧ four (sum (l.take (l.length - 4))) = l.drop (l.length - 4)
instance (l : List UInt8) : Decidable (ok l) := by unfold ok; exact inferInstance
/-- a text with one bit turned -/
def turn (l : List UInt8) (i : Nat) : List UInt8 := l.modify (i / 8) fun x => x ^^^ UInt8.ofNat (2 ^ (i % 8))
theorem T_lt {a : Nat} (h : a < 4294967296) : T a < 4294967296 := by
  refine @Nat.xor_lt_two_pow _ _ 32 (by omega) ?_
  split <;> omega
theorem Tn_lt (n : Nat) {a : Nat} (h : a < 4294967296) : Tn n a < 4294967296 := by
  induction n generalizing a with
  | zero => exact h
  | succ n ih => exact ih (T_lt h)
theorem crc_append (s : Nat) (l m : List UInt8) : crc s (l ++ m) = crc (crc s l) m := by simp [crc]
theorem crc_lt {s : Nat} (l : List UInt8) (hs : s < 4294967296) : crc s l < 4294967296 := by
  induction l generalizing s with
  | nil => exact hs
  | cons x l ih => exact ih (Tn_lt 8 (@Nat.xor_lt_two_pow _ _ 32 hs (Nat.lt_trans x.toNat_lt (by omega))))
theorem sum_lt (l : List UInt8) : sum l < 4294967296 := by unfold sum; omega
theorem not_xor {a : Nat} (h : a < 4294967296) : 4294967295 - a = 4294967295 ^^^ a := by
  have e := @Nat.and_two_pow_sub_one_eq_mod a 32
  apply Nat.eq_of_testBit_eq
  intro i
  rw [show 4294967295 - a = 2 ^ 32 - (a + 1) by omega, Nat.testBit_two_pow_sub_succ h, Nat.testBit_xor, show (4294967295 : Nat) = 2 ^ 32 - 1 from rfl, Nat.testBit_two_pow_sub_one]
  by_cases hi : i < 32
  · simp [hi]
  · have : a.testBit i = false := Nat.testBit_lt_two_pow (Nat.lt_of_lt_of_le h (Nat.pow_le_pow_right (n := 2) (by decide) (by omega : 32 ≤ i) : 2 ^ 32 ≤ 2 ^ i))
    simp [hi, this]
theorem sum_xor (l : List UInt8) : sum l = 4294967295 ^^^ crc 4294967295 l := not_xor (crc_lt l (by omega))
theorem length_four (s : Nat) : (four s).length = 4 := rfl
theorem length_sealed (l : List UInt8) : (sealed l).length = l.length + 4 := by simp [sealed, four]
end S
end Go.Proofs.Ytipccalbhlhljaa

namespace Go.Proofs.Ytipccalbhlhljaa

end Go.Proofs.Ytipccalbhlhljaa

namespace Go.Proofs.Ytipccalbhlhljaa
set_option linter.unusedVariables false
set_option linter.unusedSimpArgs false

namespace Q
theorem take_parts {l : List UInt8} (h : (take l).1 = 0) : may ((take l).2.1 : Int) ∧ ub ((take l).2.1 : Int) ++ rest l = l := by
  obtain ⟨N, k, et⟩ : ∃ N k, take l = (0, N, k) := ⟨(take l).2.1, (take l).2.2, by rw [← h]⟩
  obtain ⟨hm, _, _, _, _, hu⟩ := take_once et
  have er : rest l = l.drop k := by simp [rest, et]
  rw [et, er]
  exact ⟨hm, by show ub (N : Int) ++ _ = _; rw [hu, List.take_append_drop]⟩
theorem taketext_parts {l : List UInt8} {most : Int} (h : (taketext l most).1 = 0) : ((taketext l most).2.1.length : Int) ≤ most ∧ txt (strB (taketext l most).2.1) ++ (taketext l most).2.2 = l := by
  unfold taketext at h ⊢
  split at h
  · rename_i h1; exact absurd h h1
  · rename_i h1
    rw [if_neg h1]
    have h1 : (take l).1 = 0 := Decidable.byContradiction h1
    split at h
    · exact absurd h (by decide)
    · rename_i h2
      rw [if_neg h2]
      split at h
      · exact absurd h (by decide)
      · rename_i h3
        rw [if_neg h3]
        have hl : ((rest l).take (take l).2.1).length = (take l).2.1 := by rw [List.length_take]; omega
        refine ⟨by show (((rest l).take (take l).2.1).length : Int) ≤ most; omega, ?_⟩
        show txt (strB ((rest l).take (take l).2.1)) ++ (rest l).drop (take l).2.1 = l
        rw [txt, strB_size, hl, strB_data, List.append_assoc, List.take_append_drop]
        exact (take_parts h1).2
theorem taketext_strB (s : List UInt8) (most : Int) (h : (s.length : Int) ≤ most) (h2 : s.length ≤ 4611686018427387904) (more : List UInt8) : taketext (txt (strB s) ++ more) most = (0, s, more) := by
  have := taketext_txt (strB s) most (by rw [strB_size]; exact h) (by rw [strB_size]; exact h2) more
  rwa [strB_data] at this
end Q

/-- a frame's parts -/
structure Fr where
  kind : Int
  clu : List UInt8
  frm : Int
  pay : List UInt8
deriving DecidableEq

namespace F
def zero : Fr := ⟨0, [], 0, []⟩
def may (f : Fr) : Prop := 1 ≤ f.kind ∧ f.kind ≤ 7 ∧ 1 ≤ f.clu.length ∧ f.clu.length ≤ 30 ∧ 0 ≤ f.frm ∧ f.frm < 8 ∧ f.pay.length ≤ 30000
instance (f : Fr) : Decidable (may f) := by unfold may; exact inferInstance
def head : List UInt8 := [66, 87, 1]
def inner (f : Fr) : List UInt8 := head ++ Q.ub f.kind ++ Q.txt (strB f.clu) ++ Q.ub f.frm ++ Q.txt (strB f.pay)
def enc (f : Fr) : List UInt8 := S.sealed (inner f)

/-- what the bytes behind the head are: the error's number, the frame -/
def parse (l : List UInt8) : Nat × Fr :=
  if (Q.take l).1 ≠ 0 then ((Q.take l).1, zero)
  else if (Q.taketext (Q.rest l) 30).1 ≠ 0 then ((Q.taketext (Q.rest l) 30).1, zero)
  else if (Q.take (Q.taketext (Q.rest l) 30).2.2).1 ≠ 0 then ((Q.take (Q.taketext (Q.rest l) 30).2.2).1, zero)
  else if (Q.taketext (Q.rest (Q.taketext (Q.rest l) 30).2.2) 30000).1 ≠ 0 then ((Q.taketext (Q.rest (Q.taketext (Q.rest l) 30).2.2) 30000).1, zero)
  else if (Q.taketext (Q.rest (Q.taketext (Q.rest l) 30).2.2) 30000).2.2 = [] ∧
      may ⟨(Q.take l).2.1, (Q.taketext (Q.rest l) 30).2.1, (Q.take (Q.taketext (Q.rest l) 30).2.2).2.1, (Q.taketext (Q.rest (Q.taketext (Q.rest l) 30).2.2) 30000).2.1⟩ then
    (0, ⟨(Q.take l).2.1, (Q.taketext (Q.rest l) 30).2.1, (Q.take (Q.taketext (Q.rest l) 30).2.2).2.1, (Q.taketext (Q.rest (Q.taketext (Q.rest l) 30).2.2) 30000).2.1⟩)
  else (3, zero)
end F
end Go.Proofs.Ytipccalbhlhljaa

namespace Go.Proofs.Ytipccalbhlhljaa
set_option linter.unusedVariables false
set_option linter.unusedSimpArgs false
open Go.RowKit
/-- a disk -/
structure Dk where
  secs : List (List UInt8)
  fuse : Int
  down : Bool
deriving DecidableEq
namespace K
/-- every sector has its 64 bytes -/
def wf (d : Dk) : Prop := ∀ s ∈ d.secs, s.length = 64
def zero : List UInt8 := List.replicate 64 0
def right (d : Dk) : Prop := d.secs.length ≤ 64 ∧ -1 ≤ d.fuse
instance (d : Dk) : Decidable (right d) := inferInstanceAs (Decidable (_ ∧ _))
/-- what stands against asking for sector 'at': 0 nothing, 1 the argument, 9 that it is down -/
def asked (d : Dk) (i : Int) : Int := if ¬ right d then 1 else if d.down then 9 else if i < 0 ∨ (d.secs.length : Int) ≤ i then 1 else 0
/-- a sector of which the first k bytes are written, zeros behind -/
def torn (b : List UInt8) (k : Nat) : List UInt8 := b.take k ++ List.replicate (64 - k) 0
def put (d : Dk) (i : Int) (b : List UInt8) : Dk × Int :=
  if asked d i ≠ 0 then (d, asked d i)
  else if d.fuse = -1 then (⟨d.secs.set i.toNat b, -1, d.down⟩, 0)
  else if d.fuse < 64 then (⟨d.secs.set i.toNat (torn b d.fuse.toNat), -1, true⟩, 9)
  else (⟨d.secs.set i.toNat b, d.fuse - 64, d.down⟩, 0)
def arm (d : Dk) (n : Int) : Dk × Int :=
  if ¬ right d then (d, 1) else if d.down then (d, 9) else if n < -1 then (d, 1) else (⟨d.secs, n, d.down⟩, 0)
def wake (d : Dk) : Dk × Int := if ¬ right d then (d, 1) else (⟨d.secs, -1, false⟩, 0)
def new (n : Int) : Dk × Int := if n < 1 ∨ 64 < n then (⟨[], 0, false⟩, 1) else (⟨List.replicate n.toNat zero, -1, false⟩, 0)
theorem torn_len {b : List UInt8} (h : b.length = 64) {k : Nat} (hk : k ≤ 64) : (torn b k).length = 64 := by simp [torn, h]; omega
theorem torn_all {b : List UInt8} (h : b.length = 64) : torn b 64 = b := by simp [torn, List.take_of_length_le (Nat.le_of_eq h)]
theorem torn_none (b : List UInt8) : torn b 0 = zero := by simp [torn, zero]
theorem torn_set {b : List UInt8} (h : b.length = 64) {k : Nat} (hk : k < 64) {x : UInt8} (hx : b[k]? = some x) : (torn b k).set k x = torn b (k + 1) := by
  have hl : (b.take k).length = k := by simp; omega
  obtain ⟨m, hm⟩ : ∃ m, 64 - k = m + 1 := ⟨63 - k, by omega⟩
  unfold torn
  rw [List.set_append_right k x (by omega), hl, Nat.sub_self, hm, List.replicate_succ, List.set_cons_zero, show 64 - (k + 1) = m by omega, List.take_add_one, hx]
  simp
theorem wf_set {d : Dk} (h : wf d) {k : Nat} {s : List UInt8} (hs : s.length = 64) (f : Int) (o : Bool) : wf ⟨d.secs.set k s, f, o⟩ := fun y hy => by
  rcases List.mem_or_eq_of_mem_set hy with hy | rfl
  · exact h y hy
  · exact hs
theorem new_wf (n : Int) : wf (new n).1 := by
  unfold new
  split
  · exact fun s hs => by simp at hs
  · exact fun s hs => by rw [(List.mem_replicate.1 hs).2]; simp [zero]
theorem asked_right {d : Dk} {i : Int} (h : asked d i = 0) : right d ∧ d.down = false ∧ 0 ≤ i ∧ i.toNat < d.secs.length := by
  unfold asked at h
  split at h
  · simp at h
  · rename_i h1
    split at h
    · simp at h
    · rename_i h2
      split at h
      · simp at h
      · exact ⟨Classical.not_not.1 h1, by simpa using h2, by omega, by omega⟩
end K
/-- the cells of sectors, one behind the other -/
def S (l : List (List UInt8)) : List Value := l.flatMap U
theorem S_cons (s : List UInt8) (l : List (List UInt8)) : S (s :: l) = U s ++ S l := rfl
theorem S_length : ∀ (l : List (List UInt8)), (∀ s ∈ l, s.length = 64) → (S l).length = l.length * 64
  | [], _ => rfl
  | s :: l, h => by
    rw [S_cons, List.length_append, S_length l (fun y hy => h y (List.mem_cons_of_mem _ hy)), U_length, h s List.mem_cons_self, List.length_cons]
    omega
theorem S_at : ∀ (l : List (List UInt8)), (∀ s ∈ l, s.length = 64) → ∀ {k : Nat} {s : List UInt8}, l[k]? = some s → ∀ j, j < 64 → (S l)[k * 64 + j]? = (U s)[j]?
  | [], _, k, s, h, _, _ => by simp at h
  | t :: l, hl, 0, s, h, j, hj => by
    obtain rfl : t = s := by simpa using h
    rw [S_cons, Nat.zero_mul, Nat.zero_add, List.getElem?_append_left (by rw [U_length, hl t List.mem_cons_self]; exact hj)]
  | t :: l, hl, k + 1, s, h, j, hj => by
    have ht : (U t).length = 64 := by rw [U_length, hl t List.mem_cons_self]
    rw [S_cons, List.getElem?_append_right (by omega), ht, show (k + 1) * 64 + j - 64 = k * 64 + j by omega]
    exact S_at l (fun y hy => hl y (List.mem_cons_of_mem _ hy)) (by simpa using h) j hj
theorem Rd.atS {w : World} {B n : Nat} {A : Option Addr} {l : List (List UInt8)} (h : Rd w B 64 A n (S l)) (hl : ∀ s ∈ l, s.length = 64) (hn : l.length = n) {k : Nat} (hk : k < n) :
    ∃ b o s, A = some ⟨b, o, none⟩ ∧ b < B ∧ l[k]? = some s ∧ s.length = 64 ∧ ∀ j v, (U s)[j]? = some v → w.cell? ⟨b, o + k * 64 + j, none⟩ = some v := by
  obtain ⟨b, o, e, hb, hc⟩ := h.2 (by omega)
  obtain ⟨s, hs⟩ : ∃ s, l[k]? = some s := ⟨_, List.getElem?_eq_getElem (by omega)⟩
  have h64 := hl s (List.mem_of_getElem? hs)
  refine ⟨b, o, s, e, hb, hs, h64, fun j v hv => ?_⟩
  have hj : j < 64 := by
    have := (List.getElem?_eq_some_iff.1 hv).1
    rwa [U_length, h64] at this
  rw [Nat.add_assoc, hc _ (by rw [S_length l hl]; omega), S_at l hl hs j hj, hv]
end Go.Proofs.Ytipccalbhlhljaa

namespace Go.Proofs.Ytipccalbhlhljaa
set_option linter.unusedVariables false
set_option linter.unusedSimpArgs false
namespace K
theorem put_len (d : Dk) (i : Int) (b : List UInt8) : (put d i b).1.secs.length = d.secs.length := by
  unfold put
  split
  · rfl
  · split
    · simp
    · split <;> simp
theorem wake_right {d : Dk} (h : right d) : wake d = (⟨d.secs, -1, false⟩, 0) := by unfold wake; rw [if_neg (Classical.not_not.2 h)]
theorem asked_in {d : Dk} (h : right d) (hd : d.down = false) {k : Nat} (hk : k < d.secs.length) : asked d (k : Int) = 0 := by
  unfold asked
  rw [if_neg (Classical.not_not.2 h), if_neg (by simp [hd]), if_neg (by omega)]
end K
end Go.Proofs.Ytipccalbhlhljaa

namespace Go.Proofs.Ytipccalbhlhljaa
set_option linter.unusedVariables false
set_option linter.unusedSimpArgs false
/-- a record -/
structure Rc where
  seq : Int
  gen : Int
  note : List UInt8
deriving DecidableEq
namespace J
def none : Rc := ⟨0, 0, []⟩
def may (x : Rc) : Prop := 1 ≤ x.seq ∧ x.seq ≤ 1099511627776 ∧ 1 ≤ x.gen ∧ x.gen ≤ 1099511627776 ∧ x.note.length ≤ 30
instance (x : Rc) : Decidable (may x) := by unfold may; infer_instance
def body (x : Rc) : List UInt8 := Q.ub x.seq ++ Q.ub x.gen ++ Q.txt (strB x.note)
def full (x : Rc) : List UInt8 := S.sealed (body x)
/-- the sector of a record that may be -/
def sec (x : Rc) : List UInt8 := full x ++ (List.replicate (63 - (full x).length) 0 ++ [165])
def lay (x : Rc) : List UInt8 × Int := if may x then (sec x, 0) else (K.zero, 1)
theorem size_le6 {n : Int} (h1 : 0 ≤ n) (h2 : n ≤ 1099511627776) : Q.size n ≤ 6 := by
  have h := Q.size_mono (a := n) (b := 1099511627776) ⟨h1, by omega⟩ ⟨by omega, by omega⟩ h2
  have e : Q.size 1099511627776 = 6 := by decide
  omega
theorem strB_size (l : List UInt8) : (strB l).size = l.length := by simp [strB, ByteArray.size]
theorem body_len {x : Rc} (h : may x) : (body x).length ≤ 43 := by
  obtain ⟨h1, h2, h3, h4, h5⟩ := h
  have a := size_le6 (n := x.seq) (by omega) h2
  have b := size_le6 (n := x.gen) (by omega) h4
  have c := Q.size_mono (a := (x.note.length : Int)) (b := 30) ⟨by omega, by omega⟩ ⟨by omega, by omega⟩ (by omega)
  have e : Q.size 30 = 1 := by decide
  unfold body
  rw [List.length_append, List.length_append, Q.length_ub, Q.length_ub, Q.length_txt, strB_size]
  omega
theorem full_len (x : Rc) : (full x).length = (body x).length + 4 := S.length_sealed _
theorem sec_len {x : Rc} (h : may x) : (sec x).length = 64 := by
  have := body_len h
  have := full_len x
  unfold sec
  simp
  omega
theorem sec_last {x : Rc} (h : may x) : (sec x)[63]? = some 165 := by
  have := body_len h
  have := full_len x
  unfold sec
  rw [List.getElem?_append_right (by omega), List.getElem?_append_right (by simp)]
  simp
/-- what a sector says, read from its head on -/
def parse (b : List UInt8) : Rc × List UInt8 × Bool :=
  if (Q.take b).1 ≠ 0 then (none, [], false)
  else if (Q.take (Q.rest b)).1 ≠ 0 then (none, [], false)
  else if (Q.taketext (Q.rest (Q.rest b)) 30).1 ≠ 0 then (none, [], false)
  else (⟨(Q.take b).2.1, (Q.take (Q.rest b)).2.1, (Q.taketext (Q.rest (Q.rest b)) 30).2.1⟩, (Q.taketext (Q.rest (Q.rest b)) 30).2.2, true)
def find (b : List UInt8) : Rc × Int :=
  if (parse b).2.2 = true ∧ may (parse b).1 ∧ sec (parse b).1 = b ∧ 5 ≤ (parse b).2.1.length then ((parse b).1, 0) else (none, 10)
theorem find_bad1 {b : List UInt8} (h : parse b = (none, [], false)) : find b = (none, 10) := by
  unfold find
  rw [if_neg (fun hc => by rw [h] at hc; exact absurd hc.1 (by simp))]
theorem find_e1 {b : List UInt8} (h : (Q.take b).1 ≠ 0) : find b = (none, 10) := find_bad1 (by unfold parse; rw [if_pos h])
theorem find_e2 {b : List UInt8} (h1 : (Q.take b).1 = 0) (h : (Q.take (Q.rest b)).1 ≠ 0) : find b = (none, 10) := find_bad1 (by unfold parse; rw [if_neg (by simpa using h1), if_pos h])
theorem find_e3 {b : List UInt8} (h1 : (Q.take b).1 = 0) (h2 : (Q.take (Q.rest b)).1 = 0) (h : (Q.taketext (Q.rest (Q.rest b)) 30).1 ≠ 0) : find b = (none, 10) := find_bad1 (by unfold parse; rw [if_neg (by simpa using h1), if_neg (by simpa using h2), if_pos h])
theorem find_is {b : List UInt8} (h1 : (Q.take b).1 = 0) (h2 : (Q.take (Q.rest b)).1 = 0) (h3 : (Q.taketext (Q.rest (Q.rest b)) 30).1 = 0) {n1 n2 : Nat} {t r : List UInt8} (e1 : (Q.take b).2.1 = n1) (e2 : (Q.take (Q.rest b)).2.1 = n2) (e3 : (Q.taketext (Q.rest (Q.rest b)) 30).2 = (t, r)) :
    find b = if may ⟨n1, n2, t⟩ ∧ sec ⟨n1, n2, t⟩ = b ∧ 5 ≤ r.length then (⟨n1, n2, t⟩, 0) else (none, 10) := by
  have hp : parse b = (⟨n1, n2, t⟩, r, true) := by
    unfold parse
    rw [if_neg (by simpa using h1), if_neg (by simpa using h2), if_neg (by simpa using h3), e1, e2, e3]
  unfold find
  rw [hp]
  simp only [true_and]
theorem note_ok {x : Rc} (h : may x) : (x.note.length : Int) ≤ 30 ∧ x.note.length ≤ 4611686018427387904 := ⟨by have := h.2.2.2.2; omega, by have := h.2.2.2.2; omega⟩
theorem parse_sec {x : Rc} (h : may x) : ∃ r, parse (sec x) = (x, r, true) ∧ 5 ≤ r.length := by
  obtain ⟨h1, h2, h3, h4, h5⟩ := h
  have m1 : Q.may x.seq := ⟨by omega, by omega⟩
  have m2 : Q.may x.gen := ⟨by omega, by omega⟩
  obtain ⟨n1, n2⟩ := note_ok (x := x) ⟨h1, h2, h3, h4, h5⟩
  obtain ⟨more, hm⟩ : ∃ more, more = S.four (S.sum (body x)) ++ (List.replicate (63 - (full x).length) 0 ++ [165]) := ⟨_, rfl⟩
  have e : sec x = Q.ub x.seq ++ (Q.ub x.gen ++ (Q.txt (strB x.note) ++ more)) := by
    rw [hm]
    unfold sec full S.sealed body
    simp only [List.append_assoc]
  have hl : 5 ≤ more.length := by rw [hm]; simp [S.length_four]; omega
  refine ⟨more, ?_, hl⟩
  have t1 := Q.take_ub m1 (Q.ub x.gen ++ (Q.txt (strB x.note) ++ more))
  have r1 := Q.rest_ub m1 (Q.ub x.gen ++ (Q.txt (strB x.note) ++ more))
  have t2 := Q.take_ub m2 (Q.txt (strB x.note) ++ more)
  have r2 := Q.rest_ub m2 (Q.txt (strB x.note) ++ more)
  have t3 := Q.taketext_strB x.note 30 n1 n2 more
  unfold parse
  rw [e, r1, r2, t1, t2, t3]
  simp only [ne_eq, not_true_eq_false, if_false]
  have s1 : ((x.seq.toNat : Nat) : Int) = x.seq := by omega
  have s2 : ((x.gen.toNat : Nat) : Int) = x.gen := by omega
  rw [s1, s2]
theorem find_sec {x : Rc} (h : may x) : find (sec x) = (x, 0) := by
  obtain ⟨r, hp, hr⟩ := parse_sec h
  unfold find
  rw [hp, if_pos ⟨rfl, h, rfl, hr⟩]
theorem find_once {b : List UInt8} (h : (find b).2 = 0) : may (find b).1 ∧ sec (find b).1 = b := by
  unfold find at h ⊢
  split
  · rename_i hc
    exact ⟨hc.2.1, hc.2.2.1⟩
  · rename_i hc
    rw [if_neg hc] at h
    simp at h
theorem find_err {b : List UInt8} (h : (find b).2 ≠ 0) : find b = (none, 10) := by
  unfold find at h ⊢
  split
  · rename_i hc
    rw [if_pos hc] at h
    simp at h
  · rfl
theorem find_or (b : List UInt8) : find b = (none, 10) ∨ ∃ x, may x ∧ sec x = b ∧ find b = (x, 0) := by
  by_cases h : (find b).2 = 0
  · obtain ⟨h1, h2⟩ := find_once h
    exact Or.inr ⟨(find b).1, h1, h2, by rw [← h]⟩
  · exact Or.inl (find_err h)
theorem sec_inj {x y : Rc} (hx : may x) (hy : may y) (h : sec x = sec y) : x = y := by
  have h1 := find_sec hx
  rw [h, find_sec hy] at h1
  injection h1 with h1
  exact h1.symm
theorem find_bad {b : List UInt8} (h : b[63]? ≠ some 165) : find b = (none, 10) := by
  rcases find_or b with h1 | ⟨x, hx, rfl, _⟩
  · exact h1
  · exact absurd (sec_last hx) h
end J
end Go.Proofs.Ytipccalbhlhljaa

namespace Go.Proofs.Ytipccalbhlhljaa
set_option linter.unusedVariables false
set_option linter.unusedSimpArgs false
namespace J
/-- the better of a record and what sector i says, of n sectors -/
def better (n i : Nat) (best : Rc) (s : List UInt8) : Rc := if (find s).2 = 0 ∧ (find s).1.seq.tmod n = i ∧ best.seq < (find s).1.seq then (find s).1 else best
def upto (l : List (List UInt8)) : Nat → Rc
  | 0 => none
  | k + 1 => better l.length k (upto l k) (l.getD k [])
def lastOf (l : List (List UInt8)) : Rc := upto l l.length
def last (d : Dk) : Rc × Int := if ¬ K.right d then (none, 1) else if d.down then (none, 9) else if (lastOf d.secs).seq = 0 then (none, 10) else (lastOf d.secs, 0)
theorem upto_step {l : List (List UInt8)} {k : Nat} {s : List UInt8} (h : l[k]? = some s) : upto l (k + 1) = better l.length k (upto l k) s := by
  show better l.length k (upto l k) (l.getD k []) = _
  rw [show l.getD k [] = s by simp [List.getD, h]]
theorem better_no {n i : Nat} {best : Rc} {s : List UInt8} (h : find s = (none, 10)) : better n i best s = best := by unfold better; rw [h]; simp
theorem better_is {n i : Nat} {best x : Rc} {s : List UInt8} (h : find s = (x, 0)) : better n i best s = if x.seq.tmod n = i ∧ best.seq < x.seq then x else best := by
  unfold better
  rw [h]
  simp
theorem better_or (n i : Nat) (best : Rc) (s : List UInt8) : better n i best s = best ∨ ∃ x, may x ∧ sec x = s ∧ better n i best s = x := by
  rcases find_or s with h | ⟨x, hx, hs, h⟩
  · exact Or.inl (better_no h)
  · rw [better_is h]
    split
    · exact Or.inr ⟨x, hx, hs, rfl⟩
    · exact Or.inl rfl
theorem upto_or (l : List (List UInt8)) : ∀ k, upto l k = none ∨ may (upto l k)
  | 0 => Or.inl rfl
  | k + 1 => by
    show better _ _ _ _ = none ∨ may (better _ _ _ _)
    rcases better_or l.length k (upto l k) (l.getD k []) with h | ⟨x, hx, _, h⟩
    · rw [h]; exact upto_or l k
    · rw [h]; exact Or.inr hx
theorem last_wrong {d : Dk} (h : ¬ K.right d) : last d = (none, 1) := by unfold last; rw [if_pos h]
theorem last_down {d : Dk} (h : K.right d) (hd : d.down = true) : last d = (none, 9) := by unfold last; rw [if_neg (Classical.not_not.2 h), if_pos hd]
theorem last_is {d : Dk} (h : K.right d) (hd : d.down = false) : last d = if (lastOf d.secs).seq = 0 then (none, 10) else (lastOf d.secs, 0) := by unfold last; rw [if_neg (Classical.not_not.2 h), if_neg (by simp [hd])]
theorem last_may {d : Dk} (h : (last d).2 = 0) : may (last d).1 ∧ K.right d ∧ d.down = false := by
  by_cases hr : K.right d
  · by_cases hd : d.down = true
    · rw [last_down hr hd] at h; simp at h
    · have hd' : d.down = false := by simpa using hd
      rw [last_is hr hd'] at h ⊢
      by_cases h0 : (lastOf d.secs).seq = 0
      · rw [if_pos h0] at h; simp at h
      · rw [if_neg h0]
        refine ⟨?_, hr, hd'⟩
        rcases upto_or d.secs d.secs.length with h1 | h1
        · exact absurd (show (lastOf d.secs).seq = 0 by unfold lastOf; rw [h1]; rfl) h0
        · exact h1
  · rw [last_wrong hr] at h; simp at h
/-- a record put on a disk -/
def putr (d : Dk) (x : Rc) : Dk × Rc × Int :=
  if ¬ may x then (d, none, 1) else if (K.put d (x.seq.tmod d.secs.length) (sec x)).2 ≠ 0 then ((K.put d (x.seq.tmod d.secs.length) (sec x)).1, none, (K.put d (x.seq.tmod d.secs.length) (sec x)).2) else ((K.put d (x.seq.tmod d.secs.length) (sec x)).1, x, 0)
theorem putr_no {d : Dk} {x : Rc} (h : ¬ may x) : putr d x = (d, none, 1) := by unfold putr; rw [if_pos h]
theorem putr_is {d : Dk} {x : Rc} (h : may x) {y : Dk} {er : Int} (e : K.put d (x.seq.tmod d.secs.length) (sec x) = (y, er)) : putr d x = if er ≠ 0 then (y, none, er) else (y, x, 0) := by
  unfold putr
  rw [if_neg (Classical.not_not.2 h), e]
theorem lay_yes {x : Rc} (h : may x) : lay x = (sec x, 0) := by unfold lay; rw [if_pos h]
theorem lay_no {x : Rc} (h : ¬ may x) : lay x = (K.zero, 1) := by unfold lay; rw [if_neg h]
theorem lay_len (x : Rc) : (lay x).1.length = 64 := by
  by_cases h : may x
  · rw [lay_yes h]; exact sec_len h
  · rw [lay_no h]; simp [K.zero]
def write (d : Dk) (gen : Int) (note : List UInt8) : Dk × Rc × Int :=
  if (last d).2 ≠ 0 then (d, none, (last d).2) else if d.secs.length < 2 ∨ gen < (last d).1.gen ∨ 1099511627776 < gen ∨ 30 < note.length then (d, none, 1) else if (last d).1.seq = 1099511627776 then (d, none, 11) else putr d ⟨(last d).1.seq + 1, gen, note⟩
def next (d : Dk) (note : List UInt8) : Dk × Rc × Int :=
  if (last d).2 ≠ 0 then (d, none, (last d).2) else if (last d).1.gen = 1099511627776 then (d, none, 11) else write d ((last d).1.gen + 1) note
/-- the first k sectors written with zeros, as far as it goes -/
def zeros (d : Dk) : Nat → Dk × Int
  | 0 => (d, 0)
  | k + 1 => if (zeros d k).2 ≠ 0 then zeros d k else K.put (zeros d k).1 k K.zero
def format (d : Dk) (note : List UInt8) : Dk × Rc × Int :=
  if ¬ K.right d ∨ d.secs.length < 2 ∨ 30 < note.length then (d, none, 1) else if (zeros d d.secs.length).2 ≠ 0 then ((zeros d d.secs.length).1, none, (zeros d d.secs.length).2) else putr (zeros d d.secs.length).1 ⟨1, 1, note⟩
theorem write_e {d : Dk} {gen : Int} {note : List UInt8} {l : Rc} {er : Int} (h : last d = (l, er)) (he : er ≠ 0) : write d gen note = (d, none, er) := by unfold write; rw [h]; exact if_pos he
theorem write_a {d : Dk} {gen : Int} {note : List UInt8} {l : Rc} (h : last d = (l, 0)) (he : d.secs.length < 2 ∨ gen < l.gen ∨ 1099511627776 < gen ∨ 30 < note.length) : write d gen note = (d, none, 1) := by unfold write; rw [h, if_neg (by simp), if_pos he]
theorem write_u {d : Dk} {gen : Int} {note : List UInt8} {l : Rc} (h : last d = (l, 0)) (he : ¬ (d.secs.length < 2 ∨ gen < l.gen ∨ 1099511627776 < gen ∨ 30 < note.length)) (hu : l.seq = 1099511627776) : write d gen note = (d, none, 11) := by unfold write; rw [h, if_neg (by simp), if_neg he, if_pos hu]
theorem write_p {d : Dk} {gen : Int} {note : List UInt8} {l : Rc} (h : last d = (l, 0)) (he : ¬ (d.secs.length < 2 ∨ gen < l.gen ∨ 1099511627776 < gen ∨ 30 < note.length)) (hu : ¬ l.seq = 1099511627776) : write d gen note = putr d ⟨l.seq + 1, gen, note⟩ := by unfold write; rw [h, if_neg (by simp), if_neg he, if_neg hu]
theorem next_e {d : Dk} {note : List UInt8} {l : Rc} {er : Int} (h : last d = (l, er)) (he : er ≠ 0) : next d note = (d, none, er) := by unfold next; rw [h]; exact if_pos he
theorem next_u {d : Dk} {note : List UInt8} {l : Rc} (h : last d = (l, 0)) (hu : l.gen = 1099511627776) : next d note = (d, none, 11) := by unfold next; rw [h, if_neg (by simp), if_pos hu]
theorem next_w {d : Dk} {note : List UInt8} {l : Rc} (h : last d = (l, 0)) (hu : ¬ l.gen = 1099511627776) : next d note = write d (l.gen + 1) note := by unfold next; rw [h, if_neg (by simp), if_neg hu]
theorem zeros_step {d : Dk} {k : Nat} (h : (zeros d k).2 = 0) : zeros d (k + 1) = K.put (zeros d k).1 k K.zero := by
  show (if (zeros d k).2 ≠ 0 then zeros d k else K.put (zeros d k).1 k K.zero) = _
  rw [if_neg (by rw [h]; simp)]
theorem zeros_stuck {d : Dk} {k : Nat} (h : (zeros d k).2 ≠ 0) : ∀ m, zeros d (k + m) = zeros d k
  | 0 => rfl
  | m + 1 => by
    have ih := zeros_stuck h m
    show (if (zeros d (k + m)).2 ≠ 0 then zeros d (k + m) else _) = _
    rw [ih, if_pos h]
theorem zeros_len (d : Dk) : ∀ k, (zeros d k).1.secs.length = d.secs.length
  | 0 => rfl
  | k + 1 => by
    have ih := zeros_len d k
    show (if (zeros d k).2 ≠ 0 then zeros d k else K.put (zeros d k).1 k K.zero).1.secs.length = _
    split
    · exact ih
    · rw [K.put_len, ih]
theorem put_fuse (d : Dk) (i : Int) (b : List UInt8) (h : -1 ≤ d.fuse) : (K.put d i b).1.fuse ≤ d.fuse := by
  unfold K.put
  split
  · exact Int.le_refl _
  · split
    · exact h
    · split
      · exact h
      · show d.fuse - 64 ≤ d.fuse; omega
theorem put_fuse1 (d : Dk) (i : Int) (b : List UInt8) (h : -1 ≤ d.fuse) : -1 ≤ (K.put d i b).1.fuse := by
  unfold K.put
  split
  · exact h
  · split
    · show (-1 : Int) ≤ -1; omega
    · split
      · show (-1 : Int) ≤ -1; omega
      · show -1 ≤ d.fuse - 64; omega
theorem zeros_fuse (d : Dk) (h : -1 ≤ d.fuse) : ∀ k, -1 ≤ (zeros d k).1.fuse ∧ (zeros d k).1.fuse ≤ d.fuse
  | 0 => ⟨h, Int.le_refl _⟩
  | k + 1 => by
    obtain ⟨h1, h2⟩ := zeros_fuse d h k
    show -1 ≤ (if (zeros d k).2 ≠ 0 then zeros d k else K.put (zeros d k).1 k K.zero).1.fuse ∧ (if (zeros d k).2 ≠ 0 then zeros d k else K.put (zeros d k).1 k K.zero).1.fuse ≤ _
    split
    · exact ⟨h1, h2⟩
    · exact ⟨put_fuse1 _ _ _ h1, Int.le_trans (put_fuse _ _ _ h1) h2⟩
theorem format_a {d : Dk} {note : List UInt8} (h : ¬ K.right d ∨ d.secs.length < 2 ∨ 30 < note.length) : format d note = (d, none, 1) := by unfold format; rw [if_pos h]
theorem format_e {d : Dk} {note : List UInt8} (h : ¬ (¬ K.right d ∨ d.secs.length < 2 ∨ 30 < note.length)) {y : Dk} {er : Int} (e : zeros d d.secs.length = (y, er)) (he : er ≠ 0) : format d note = (y, none, er) := by unfold format; rw [if_neg h, e, if_pos he]
theorem format_p {d : Dk} {note : List UInt8} (h : ¬ (¬ K.right d ∨ d.secs.length < 2 ∨ 30 < note.length)) {y : Dk} (e : zeros d d.secs.length = (y, 0)) : format d note = putr y ⟨1, 1, note⟩ := by unfold format; rw [if_neg h, e, if_neg (by simp)]
theorem putr_len (d : Dk) (x : Rc) : (putr d x).1.secs.length = d.secs.length := by
  unfold putr
  split
  · rfl
  · split
    · exact K.put_len _ _ _
    · exact K.put_len _ _ _
theorem write_len (d : Dk) (gen : Int) (note : List UInt8) : (write d gen note).1.secs.length = d.secs.length := by
  unfold write
  split
  · rfl
  · split
    · rfl
    · split
      · rfl
      · exact putr_len _ _
theorem next_len (d : Dk) (note : List UInt8) : (next d note).1.secs.length = d.secs.length := by
  unfold next
  split
  · rfl
  · split
    · rfl
    · exact write_len _ _ _
theorem format_len (d : Dk) (note : List UInt8) : (format d note).1.secs.length = d.secs.length := by
  unfold format
  split
  · rfl
  · split
    · exact zeros_len _ _
    · rw [putr_len, zeros_len]
end J
end Go.Proofs.Ytipccalbhlhljaa

