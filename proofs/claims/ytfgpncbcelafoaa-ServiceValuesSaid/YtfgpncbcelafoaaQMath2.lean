/- There and back, in plain mathematics: what is laid is taken, what is taken was laid. -/
import Derived.Test.YtfgpncbcelafoaaQMath
namespace Go.Proofs.Ytfgpncbcelafoaa
namespace Q

theorem encf_lt (f : Nat) : ∀ m, m < 128 ^ (f + 1) → ∀ x ∈ encf f m, x < 256 := by
  induction f with
  | zero => intro m hm x hx; simp only [encf, List.mem_singleton] at hx; subst hx; simp at hm; omega
  | succ f ih =>
    intro m hm x hx
    simp only [encf] at hx
    split at hx
    · simp only [List.mem_singleton] at hx; omega
    · rcases List.mem_cons.1 hx with rfl | hx
      · omega
      · exact ih (m / 128) (by rw [Nat.pow_succ] at hm; omega) x hx

theorem tk_enc (f : Nat) : ∀ (c acc unit m : Nat) (more : List UInt8), m < 128 ^ (f + 1) →
    tk (f + 1) c acc unit ((encf f m).map UInt8.ofNat ++ more) = if size ((acc + m * unit : Nat) : Int) = c + szf f m then (0, acc + m * unit, c + szf f m) else (3, 0, 0) := by
  induction f with
  | zero =>
    intro c acc unit m more hm
    have hm : m < 128 := by simpa using hm
    simp only [encf, szf, List.map_cons, List.map_nil, List.cons_append, List.nil_append, tk]
    rw [UInt8.toNat_ofNat', Nat.mod_eq_of_lt (show m < 2 ^ 8 by omega), Nat.mod_eq_of_lt hm, if_neg (by omega)]
    rfl
  | succ f ih =>
    intro c acc unit m more hm
    by_cases h : m < 128
    · simp only [encf, szf, if_pos h, List.map_cons, List.map_nil, List.cons_append, List.nil_append]
      rw [tk]
      rw [UInt8.toNat_ofNat', Nat.mod_eq_of_lt (show m < 2 ^ 8 by omega), Nat.mod_eq_of_lt h, if_neg (by omega)]
    · simp only [encf, szf, if_neg h, List.map_cons, List.cons_append]
      rw [tk]
      rw [UInt8.toNat_ofNat', Nat.mod_eq_of_lt (show m % 128 + 128 < 2 ^ 8 by omega), if_pos (by omega)]
      rw [ih (c + 1) _ _ (m / 128) more (by rw [Nat.pow_succ] at hm; omega)]
      have e : acc + (m % 128 + 128) % 128 * unit + m / 128 * (unit * 128) = acc + m * unit := by
        have h1 : (m % 128 + 128) % 128 = m % 128 := by omega
        have h2 : m = m % 128 + 128 * (m / 128) := by omega
        rw [h1]
        conv => rhs; rw [h2]
        rw [Nat.add_mul, Nat.mul_comm unit 128, ← Nat.mul_assoc, Nat.mul_comm (m / 128) 128]
        omega
      rw [e, Nat.add_assoc]

theorem take_ub {n : Int} (h : may n) (more : List UInt8) : take (ub n ++ more) = (0, n.toNat, size n) := by
  have hs : size n = szf 8 n.toNat := by simp [size, sz, h]
  have hn : ((n.toNat : Nat) : Int) = n := Int.toNat_of_nonneg h.1
  unfold take ub bytes
  rw [if_pos h, enc, tk_enc 8 0 0 1 n.toNat more (by have := h.2; simp only [Nat.reduceAdd, Nat.reducePow]; omega)]
  rw [Nat.zero_add, Nat.mul_one, Nat.zero_add, hn, if_pos hs, hs]
theorem rest_ub {n : Int} (h : may n) (more : List UInt8) : rest (ub n ++ more) = more := by
  unfold rest
  rw [take_ub h]
  simp only [if_true]
  rw [← length_ub, List.drop_left]

theorem tk_cut (f : Nat) : ∀ (c acc unit m j : Nat), m < 128 ^ (f + 1) → j < szf f m → tk (f + 1) c acc unit (((encf f m).map UInt8.ofNat).take j) = (2, 0, 0) := by
  induction f with
  | zero =>
    intro c acc unit m j hm hj
    simp only [szf] at hj
    obtain rfl : j = 0 := by omega
    simp [tk]
  | succ f ih =>
    intro c acc unit m j hm hj
    cases j with
    | zero => simp [tk]
    | succ j =>
      by_cases h : m < 128
      · simp only [szf, if_pos h] at hj; omega
      · simp only [szf, if_neg h] at hj
        simp only [encf, if_neg h, List.map_cons, List.take_succ_cons]
        rw [tk]
        rw [UInt8.toNat_ofNat', Nat.mod_eq_of_lt (show m % 128 + 128 < 2 ^ 8 by omega), if_pos (by omega)]
        exact ih _ _ _ (m / 128) j (by rw [Nat.pow_succ] at hm; omega) (by omega)
theorem take_cut {n : Int} (h : may n) {j : Nat} (hj : j < size n) : take ((ub n).take j) = (2, 0, 0) := by
  have hs : size n = szf 8 n.toNat := by simp [size, sz, h]
  unfold take ub bytes
  rw [if_pos h, enc]
  exact tk_cut 8 0 0 1 n.toNat j (by have := h.2; simp only [Nat.reduceAdd, Nat.reducePow]; omega) (by omega)

theorem szf_mono (f : Nat) : ∀ a b, a ≤ b → szf f a ≤ szf f b := by
  induction f with
  | zero => intro a b _; simp [szf]
  | succ f ih =>
    intro a b h
    simp only [szf]
    have h1 := szf_pos f (b / 128)
    have h2 := ih (a / 128) (b / 128) (by omega)
    split <;> split <;> omega
theorem size_mono {a b : Int} (ha : may a) (hb : may b) (h : a ≤ b) : size a ≤ size b := by
  simp only [size, if_pos ha, if_pos hb, sz]
  exact szf_mono 8 _ _ (by omega)

/-! ### What is taken was laid -/
def val : List UInt8 → UInt8 → Nat
  | [], x => x.toNat
  | y :: p, x => y.toNat % 128 + 128 * val p x
theorem tk_val (f : Nat) : ∀ (c acc unit : Nat) (l : List UInt8) (N k : Nat), tk f c acc unit l = (0, N, k) →
    ∃ p x r, l = p ++ x :: r ∧ (∀ y ∈ p, 128 ≤ y.toNat) ∧ x.toNat < 128 ∧ N = acc + unit * val p x ∧ k = c + p.length + 1 ∧ size (N : Int) = k ∧ p.length < f := by
  induction f with
  | zero => intro c acc unit l N k h; simp [tk] at h
  | succ f ih =>
    intro c acc unit l N k h
    cases l with
    | nil => simp [tk] at h
    | cons y r =>
      rw [tk] at h
      split at h
      · rename_i hy
        obtain ⟨p, x, r', e1, e2, e3, e4, e5, e6, e7⟩ := ih _ _ _ _ _ _ h
        refine ⟨y :: p, x, r', by rw [e1]; rfl, ?_, e3, ?_, by simp; omega, e6, by simp; omega⟩
        · intro z hz
          rcases List.mem_cons.1 hz with rfl | hz
          · exact hy
          · exact e2 z hz
        · rw [e4, val, Nat.mul_add, Nat.mul_assoc, ← Nat.mul_comm unit]; omega
      · rename_i hy
        split at h
        · rename_i hs
          simp only [Prod.mk.injEq, true_and] at h
          obtain ⟨rfl, rfl⟩ := h
          refine ⟨[], y, r, rfl, by simp, by omega, ?_, by simp, hs, by simp⟩
          rw [val, Nat.mod_eq_of_lt (by omega), Nat.mul_comm]
        · simp at h
theorem encf_val (x : UInt8) (hx : x.toNat < 128) : ∀ (p : List UInt8) (f : Nat), p.length ≤ f → (∀ y ∈ p, 128 ≤ y.toNat) → szf f (val p x) = p.length + 1 → encf f (val p x) = p.map UInt8.toNat ++ [x.toNat] := by
  intro p
  induction p with
  | nil =>
    intro f _ _ _
    cases f with
    | zero => simp [encf, val]
    | succ f => simp [encf, val, hx]
  | cons y p ih =>
    intro f hf hy hs
    cases f with
    | zero => simp at hf
    | succ f =>
      have hb := hy y (by simp)
      have hl : y.toNat < 256 := UInt8.toNat_lt y
      simp only [val, List.length_cons] at hs hf ⊢
      simp only [szf] at hs
      have h1 : (y.toNat % 128 + 128 * val p x) / 128 = val p x := by omega
      have h2 : (y.toNat % 128 + 128 * val p x) % 128 = y.toNat % 128 := by omega
      simp only [encf]
      split at hs
      · omega
      · rename_i hn
        rw [if_neg hn, h1, h2]
        rw [h1] at hs
        rw [ih f (by omega) (fun z hz => hy z (by simp [hz])) (by omega)]
        simp only [List.map_cons, List.cons_append]
        congr 1
        omega
theorem size_may {N : Nat} (h : size (N : Int) ≠ 0) : may (N : Int) := by
  by_cases hm : may (N : Int)
  · exact hm
  · simp [size, hm] at h
/-- what was taken has just those bytes -/
theorem take_once {l : List UInt8} {N k : Nat} (h : take l = (0, N, k)) : may (N : Int) ∧ size (N : Int) = k ∧ 1 ≤ k ∧ k ≤ 9 ∧ k ≤ l.length ∧ ub (N : Int) = l.take k := by
  obtain ⟨p, x, r, e1, e2, e3, e4, e5, e6, e7⟩ := tk_val 9 0 0 1 l N k h
  simp only [Nat.zero_add, Nat.one_mul] at e4 e5
  subst e4
  have hm : may ((val p x : Nat) : Int) := size_may (by omega)
  refine ⟨hm, e6, by omega, by omega, by rw [e1]; simp; omega, ?_⟩
  have hs : szf 8 (val p x) = p.length + 1 := by
    have : size ((val p x : Nat) : Int) = szf 8 (val p x) := by simp [size, sz, hm]
    omega
  have he := encf_val x e3 p 8 (by omega) e2 hs
  simp only [ub, bytes, if_pos hm, enc, Int.toNat_natCast]
  rw [he, e1, e5]
  have h0 : ∀ y : UInt8, UInt8.ofNat y.toNat = y := fun y => by simp
  simp only [List.map_append, List.map_map, List.map_cons, List.map_nil, h0]
  have : (p.map (UInt8.ofNat ∘ UInt8.toNat)) = p := (List.map_congr_left (fun y _ => h0 y)).trans (List.map_id p)
  rw [this]
  have : p ++ x :: r = (p ++ [x]) ++ r := by simp
  rw [this, List.take_left' (by simp)]
theorem tk_err (f : Nat) : ∀ (c acc unit : Nat) (l : List UInt8), (tk f c acc unit l).1 ≠ 0 → (tk f c acc unit l).2 = (0, 0) := by
  induction f with
  | zero => intro c acc unit l _; rfl
  | succ f ih =>
    intro c acc unit l h
    cases l with
    | nil => rfl
    | cons y r =>
      rw [tk] at h ⊢
      split at h
      · rename_i hy; rw [if_pos hy]; exact ih _ _ _ _ h
      · rename_i hy
        rw [if_neg hy]
        split at h
        · exact absurd rfl h
        · rename_i hs; rw [if_neg hs]
theorem take_err {l : List UInt8} (h : (take l).1 ≠ 0) : (take l).2.1 = 0 ∧ rest l = [] := by
  refine ⟨?_, by simp [rest, h]⟩
  have := tk_err 9 0 0 1 l h
  show (tk 9 0 0 1 l).2.1 = 0
  rw [this]
/-- a text is taken as it was laid -/
theorem taketext_txt (s : ByteArray) (most : Int) (h : (s.size : Int) ≤ most) (h2 : s.size ≤ 4611686018427387904) (more : List UInt8) : taketext (txt s ++ more) most = (0, s.data.toList, more) := by
  have hm : may (s.size : Int) := ⟨by omega, by omega⟩
  have e : txt s ++ more = ub s.size ++ (s.data.toList ++ more) := by simp [txt]
  have hl : s.data.toList.length = s.size := rfl
  unfold taketext
  rw [e, take_ub hm, rest_ub hm]
  simp only [ne_eq, not_true, if_false, Int.toNat_natCast]
  rw [if_neg (by omega), if_neg (by rw [List.length_append]; omega), ← hl, List.take_left, List.drop_left]

end Q
end Go.Proofs.Ytfgpncbcelafoaa
