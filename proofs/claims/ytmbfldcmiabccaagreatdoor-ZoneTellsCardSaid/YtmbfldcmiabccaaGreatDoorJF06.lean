/- QMath2 SMath SCode FMath YMath YRef (merged). -/
import Derived.Below
import Derived.Test.YtmbfldcmiabccaaGreatDoorJF00
import Derived.Test.YtmbfldcmiabccaaGreatDoorJF05
namespace Go.Proofs.YtmbfldcmiabccaaGreatDoor
namespace Q

theorem tk_enc (f : Nat) : ∀ (c acc unit m : Nat) (more : List UInt8), m < 128 ^ (f + 1) →
    tk (f + 1) c acc unit ((encf f m).map UInt8.ofNat ++ more) = if size ((acc + m * unit : Nat) : Int) = c + szf f m then (0, acc + m * unit, c + szf f m) else (3, 0, 0) := by
  induction f with
  | zero =>
    intro c acc unit m more hm
    have hm : m < 128 := by simpa using hm
    simp only [encf, szf, List.map_cons, List.map_nil, List.cons_append, List.nil_append, tk]
    rw [UInt8.toNat_ofNat', Nat.mod_eq_of_lt (show m < 2 ^ 8 by omega), Nat.mod_eq_of_lt hm, if_neg (by omega)]
    rfl
  | succ f ih =>
    intro c acc unit m more hm
    by_cases h : m < 128
    · simp only [encf, szf, if_pos h, List.map_cons, List.map_nil, List.cons_append, List.nil_append]
      rw [tk]
      rw [UInt8.toNat_ofNat', Nat.mod_eq_of_lt (show m < 2 ^ 8 by omega), Nat.mod_eq_of_lt h, if_neg (by omega)]
    · simp only [encf, szf, if_neg h, List.map_cons, List.cons_append]
      rw [tk]
      rw [UInt8.toNat_ofNat', Nat.mod_eq_of_lt (show m % 128 + 128 < 2 ^ 8 by omega), if_pos (by omega)]
      rw [ih (c + 1) _ _ (m / 128) more (by rw [Nat.pow_succ] at hm; omega)]
      have e : acc + (m % 128 + 128) % 128 * unit + m / 128 * (unit * 128) = acc + m * unit := by
        have h1 : (m % 128 + 128) % 128 = m % 128 := by omega
        have h2 : m = m % 128 + 128 * (m / 128) := by omega
        rw [h1]
        conv => rhs; rw [h2]
        rw [Nat.add_mul, Nat.mul_comm unit 128, ← Nat.mul_assoc, Nat.mul_comm (m / 128) 128]
        omega
      rw [e, Nat.add_assoc]

theorem take_ub {n : Int} (h : may n) (more : List UInt8) : take (ub n ++ more) = (0, n.toNat, size n) := by
  have hs : size n = szf 8 n.toNat := by simp [size, sz, h]
  have hn : ((n.toNat : Nat) : Int) = n := Int.toNat_of_nonneg h.1
  unfold take ub bytes
  rw [if_pos h, enc, tk_enc 8 0 0 1 n.toNat more (by have := h.2; simp only [Nat.reduceAdd, Nat.reducePow]; omega)]
  rw [Nat.zero_add, Nat.mul_one, Nat.zero_add, hn, if_pos hs, hs]
theorem rest_ub {n : Int} (h : may n) (more : List UInt8) : rest (ub n ++ more) = more := by
  unfold rest
  rw [take_ub h]
  simp only [if_true]
  rw [← length_ub, List.drop_left]

/-! ### What is taken was laid -/
def val : List UInt8 → UInt8 → Nat
  | [], x => x.toNat
  | y :: p, x => y.toNat % 128 + 128 * val p x
theorem tk_val (f : Nat) : ∀ (c acc unit : Nat) (l : List UInt8) (N k : Nat), tk f c acc unit l = (0, N, k) →
    ∃ p x r, l = p ++ x :: r ∧ (∀ y ∈ p, 128 ≤ y.toNat) ∧ x.toNat < 128 ∧ N = acc + unit * val p x ∧ k = c + p.length + 1 ∧ size (N : Int) = k ∧ p.length < f := by
  induction f with
  | zero => intro c acc unit l N k h; simp [tk] at h
  | succ f ih =>
    intro c acc unit l N k h
    cases l with
    | nil => simp [tk] at h
    | cons y r =>
      rw [tk] at h
      split at h
      · rename_i hy
        obtain ⟨p, x, r', e1, e2, e3, e4, e5, e6, e7⟩ := ih _ _ _ _ _ _ h
        refine ⟨y :: p, x, r', by rw [e1]; rfl, ?_, e3, ?_, by simp; omega, e6, by simp; omega⟩
        · intro z hz
          rcases List.mem_cons.1 hz with rfl | hz
          · exact hy
          · exact e2 z hz
        · rw [e4, val, Nat.mul_add, Nat.mul_assoc, ← Nat.mul_comm unit]; omega
      · rename_i hy
        split at h
        · rename_i hs
          simp only [Prod.mk.injEq, true_and] at h
          obtain ⟨rfl, rfl⟩ := h
          refine ⟨[], y, r, rfl, by simp, by omega, ?_, by simp, hs, by simp⟩
          rw [val, Nat.mod_eq_of_lt (by omega), Nat.mul_comm]
        · simp at h
theorem encf_val (x : UInt8) (hx : x.toNat < 128) : ∀ (p : List UInt8) (f : Nat), p.length ≤ f → (∀ y ∈ p, 128 ≤ y.toNat) → szf f (val p x) = p.length + 1 → encf f (val p x) = p.map UInt8.toNat ++ [x.toNat] := by
  intro p
  induction p with
  | nil =>
    intro f _ _ _
    cases f with
    | zero => simp [encf, val]
    | succ f => simp [encf, val, hx]
  | cons y p ih =>
    intro f hf hy hs
    cases f with
    | zero => simp at hf
    | succ f =>
      have hb := hy y (by simp)
      have hl : y.toNat < 256 := UInt8.toNat_lt y
      simp only [val, List.length_cons] at hs hf ⊢
      simp only [szf] at hs
      have h1 : (y.toNat % 128 + 128 * val p x) / 128 = val p x := by omega
      have h2 : (y.toNat % 128 + 128 * val p x) % 128 = y.toNat % 128 := by omega
      simp only [encf]
      split at hs
      · omega
      · rename_i hn
        rw [if_neg hn, h1, h2]
        rw [h1] at hs
        rw [ih f (by omega) (fun z hz => hy z (by simp [hz])) (by omega)]
        simp only [List.map_cons, List.cons_append]
        congr 1
        omega
theorem size_may {N : Nat} (h : size (N : Int) ≠ 0) : may (N : Int) := by
  by_cases hm : may (N : Int)
  · exact hm
  · simp [size, hm] at h
/-- what was taken has just those bytes -/
theorem take_once {l : List UInt8} {N k : Nat} (h : take l = (0, N, k)) : may (N : Int) ∧ size (N : Int) = k ∧ 1 ≤ k ∧ k ≤ 9 ∧ k ≤ l.length ∧ ub (N : Int) = l.take k := by
  obtain ⟨p, x, r, e1, e2, e3, e4, e5, e6, e7⟩ := tk_val 9 0 0 1 l N k h
  simp only [Nat.zero_add, Nat.one_mul] at e4 e5
  subst e4
  have hm : may ((val p x : Nat) : Int) := size_may (by omega)
  refine ⟨hm, e6, by omega, by omega, by rw [e1]; simp; omega, ?_⟩
  have hs : szf 8 (val p x) = p.length + 1 := by
    have : size ((val p x : Nat) : Int) = szf 8 (val p x) := by simp [size, sz, hm]
    omega
  have he := encf_val x e3 p 8 (by omega) e2 hs
  simp only [ub, bytes, if_pos hm, enc, Int.toNat_natCast]
  rw [he, e1, e5]
  have h0 : ∀ y : UInt8, UInt8.ofNat y.toNat = y := fun y => by simp
  simp only [List.map_append, List.map_map, List.map_cons, List.map_nil, h0]
  have : (p.map (UInt8.ofNat ∘ UInt8.toNat)) = p := (List.map_congr_left (fun y _ => h0 y)).trans (List.map_id p)
  rw [this]
  have : p ++ x :: r = (p ++ [x]) ++ r := by simp
  rw [this, List.take_left' (by simp)]
/-- a text is taken as it was laid -/
theorem taketext_txt (s : ByteArray) (most : Int) (h : (s.size : Int) ≤ most) (h2 : s.size ≤ 4611686018427387904) (more : List UInt8) : taketext (txt s ++ more) most = (0, s.data.toList, more) := by
  have hm : may (s.size : Int) := ⟨by omega, by omega⟩
  have e : txt s ++ more = ub s.size ++ (s.data.toList ++ more) := by simp [txt]
  have hl : s.data.toList.length = s.size := rfl
  unfold taketext
  rw [e, take_ub hm, rest_ub hm]
  simp only [ne_eq, not_true, if_false, Int.toNat_natCast]
  rw [if_neg (by omega), if_neg (by rw [List.length_append]; omega), ← hl, List.take_left, List.drop_left]

end Q
end Go.Proofs.YtmbfldcmiabccaaGreatDoor

namespace Go.Proofs.YtmbfldcmiabccaaGreatDoor
namespace S

/-- one place further down -/
def T (s : Nat) : Nat := s / 2 ^^^ (if s % 2 = 1 then 2197175160 else 0)
def Tn : Nat → Nat → Nat
  | 0, s => s
  | n + 1, s => Tn n (T s)
/-- all bytes from a number on; a text's sum -/
def crc (s : Nat) (l : List UInt8) : Nat := l.foldl (fun s x => Tn 8 (s ^^^ x.toNat)) s
def sum (l : List UInt8) : Nat := 4294967295 - crc 4294967295 l
/-- four bytes of a number -/
def four (s : Nat) : List UInt8 := [UInt8.ofNat s, UInt8.ofNat (s / 256), UInt8.ofNat (s / 65536), UInt8.ofNat (s / 16777216)]
def sealed (l : List UInt8) : List UInt8 := l ++ four (sum l)
/-- whether a text is sealed -/
def ok (l : List UInt8) : Prop := 4 ≤ l.length ∧ four (sum (l.take (l.length - 4))) = l.drop (l.length - 4)
instance (l : List UInt8) : Decidable (ok l) := by unfold ok; exact inferInstance
theorem length_sealed (l : List UInt8) : (sealed l).length = l.length + 4 := by simp [sealed, four]
theorem ok_sealed (l : List UInt8) : ok (sealed l) := by
  refine ⟨by rw [length_sealed]; omega, ?_⟩
  rw [length_sealed, Nat.add_sub_cancel, sealed, List.take_left, List.drop_left]
theorem inner_sealed (l : List UInt8) : (sealed l).take ((sealed l).length - 4) = l := by
  rw [length_sealed, Nat.add_sub_cancel, sealed, List.take_left]
end S
end Go.Proofs.YtmbfldcmiabccaaGreatDoor

namespace Go.Proofs.YtmbfldcmiabccaaGreatDoor

/-- what Open answers: the error's number, the bytes -/
def codeOf (l : List UInt8) : Int := if l.length < 4 then 2 else if S.ok l then 0 else 5
def innerOf (l : List UInt8) : List UInt8 := if S.ok l then l.take (l.length - 4) else []
theorem ok_sealed_iff {l : List UInt8} (h4 : 4 ≤ l.length) : S.ok l ↔ S.sealed (l.take (l.length - 4)) = l := by
  constructor
  · intro h; rw [S.sealed, h.2, List.take_append_drop]
  · intro h
    refine ⟨h4, ?_⟩
    have h2 : S.sealed (l.take (l.length - 4)) = l.take (l.length - 4) ++ l.drop (l.length - 4) := by rw [h, List.take_append_drop]
    exact List.append_cancel_left h2
theorem code_zero {l : List UInt8} (h : codeOf l = 0) : S.ok l ∧ S.sealed (innerOf l) = l := by
  unfold codeOf at h
  split at h
  · omega
  · rename_i h4
    split at h
    · rename_i hk
      refine ⟨hk, ?_⟩
      unfold innerOf
      rw [if_pos hk]
      exact (ok_sealed_iff (by omega)).1 hk
    · omega
theorem code_sealed (l : List UInt8) : codeOf (S.sealed l) = 0 := by
  unfold codeOf
  rw [if_neg (by rw [S.length_sealed]; omega), if_pos (S.ok_sealed l)]
theorem inner_of_sealed (l : List UInt8) : innerOf (S.sealed l) = l := by
  unfold innerOf
  rw [if_pos (S.ok_sealed l), S.inner_sealed]
end Go.Proofs.YtmbfldcmiabccaaGreatDoor

namespace Go.Proofs.YtmbfldcmiabccaaGreatDoor
set_option linter.unusedVariables false
set_option linter.unusedSimpArgs false

namespace Q
theorem take_parts {l : List UInt8} (h : (take l).1 = 0) : may ((take l).2.1 : Int) ∧ ub ((take l).2.1 : Int) ++ rest l = l := by
  obtain ⟨N, k, et⟩ : ∃ N k, take l = (0, N, k) := ⟨(take l).2.1, (take l).2.2, by rw [← h]⟩
  obtain ⟨hm, _, _, _, _, hu⟩ := take_once et
  have er : rest l = l.drop k := by simp [rest, et]
  rw [et, er]
  exact ⟨hm, by show ub (N : Int) ++ _ = _; rw [hu, List.take_append_drop]⟩
theorem taketext_parts {l : List UInt8} {most : Int} (h : (taketext l most).1 = 0) : ((taketext l most).2.1.length : Int) ≤ most ∧ txt (strB (taketext l most).2.1) ++ (taketext l most).2.2 = l := by
  unfold taketext at h ⊢
  split at h
  · rename_i h1; exact absurd h h1
  · rename_i h1
    rw [if_neg h1]
    have h1 : (take l).1 = 0 := Decidable.byContradiction h1
    split at h
    · exact absurd h (by decide)
    · rename_i h2
      rw [if_neg h2]
      split at h
      · exact absurd h (by decide)
      · rename_i h3
        rw [if_neg h3]
        have hl : ((rest l).take (take l).2.1).length = (take l).2.1 := by rw [List.length_take]; omega
        refine ⟨by show (((rest l).take (take l).2.1).length : Int) ≤ most; omega, ?_⟩
        show txt (strB ((rest l).take (take l).2.1)) ++ (rest l).drop (take l).2.1 = l
        rw [txt, strB_size, hl, strB_data, List.append_assoc, List.take_append_drop]
        exact (take_parts h1).2
theorem taketext_strB (s : List UInt8) (most : Int) (h : (s.length : Int) ≤ most) (h2 : s.length ≤ 4611686018427387904) (more : List UInt8) : taketext (txt (strB s) ++ more) most = (0, s, more) := by
  have := taketext_txt (strB s) most (by rw [strB_size]; exact h) (by rw [strB_size]; exact h2) more
  rwa [strB_data] at this
end Q

/-- a frame's parts -/
structure Fr where
  kind : Int
  clu : List UInt8
  frm : Int
  pay : List UInt8
deriving DecidableEq

namespace F
def zero : Fr := ⟨0, [], 0, []⟩
def may (f : Fr) : Prop := 1 ≤ f.kind ∧ f.kind ≤ 7 ∧ 1 ≤ f.clu.length ∧ f.clu.length ≤ 30 ∧ 0 ≤ f.frm ∧ f.frm < 8 ∧ f.pay.length ≤ 30000
instance (f : Fr) : Decidable (may f) := by unfold may; exact inferInstance
def head : List UInt8 := [66, 87, 1]
def inner (f : Fr) : List UInt8 := head ++ Q.ub f.kind ++ Q.txt (strB f.clu) ++ Q.ub f.frm ++ Q.txt (strB f.pay)
def enc (f : Fr) : List UInt8 := S.sealed (inner f)

/-- what the bytes behind the head are: the error's number, the frame -/
def parse (l : List UInt8) : Nat × Fr :=
  if (Q.take l).1 ≠ 0 then ((Q.take l).1, zero)
  else if (Q.taketext (Q.rest l) 30).1 ≠ 0 then ((Q.taketext (Q.rest l) 30).1, zero)
  else if (Q.take (Q.taketext (Q.rest l) 30).2.2).1 ≠ 0 then ((Q.take (Q.taketext (Q.rest l) 30).2.2).1, zero)
  else if (Q.taketext (Q.rest (Q.taketext (Q.rest l) 30).2.2) 30000).1 ≠ 0 then ((Q.taketext (Q.rest (Q.taketext (Q.rest l) 30).2.2) 30000).1, zero)
  else if (Q.taketext (Q.rest (Q.taketext (Q.rest l) 30).2.2) 30000).2.2 = [] ∧
      may ⟨(Q.take l).2.1, (Q.taketext (Q.rest l) 30).2.1, (Q.take (Q.taketext (Q.rest l) 30).2.2).2.1, (Q.taketext (Q.rest (Q.taketext (Q.rest l) 30).2.2) 30000).2.1⟩ then
    (0, ⟨(Q.take l).2.1, (Q.taketext (Q.rest l) 30).2.1, (Q.take (Q.taketext (Q.rest l) 30).2.2).2.1, (Q.taketext (Q.rest (Q.taketext (Q.rest l) 30).2.2) 30000).2.1⟩)
  else (3, zero)
/-- what bytes are, in a cluster -/
def dec (l c : List UInt8) : Int × Fr :=
  if codeOf l ≠ 0 then (codeOf l, zero)
  else if (innerOf l).take 3 ≠ head then (3, zero)
  else if (parse ((innerOf l).drop 3)).1 ≠ 0 then ((parse ((innerOf l).drop 3)).1, zero)
  else if (parse ((innerOf l).drop 3)).2.clu ≠ c then (6, zero)
  else (0, (parse ((innerOf l).drop 3)).2)

theorem parse_lay (f : Fr) (h : may f) : parse (Q.ub f.kind ++ Q.txt (strB f.clu) ++ Q.ub f.frm ++ Q.txt (strB f.pay)) = (0, f) := by
  obtain ⟨h1, h2, h3, h4, h5, h6, h7⟩ := id h
  have hk : Q.may f.kind := ⟨by omega, by omega⟩
  have hf : Q.may f.frm := ⟨by omega, by omega⟩
  have e1 := Q.take_ub hk (Q.txt (strB f.clu) ++ (Q.ub f.frm ++ Q.txt (strB f.pay)))
  have e2 := Q.rest_ub hk (Q.txt (strB f.clu) ++ (Q.ub f.frm ++ Q.txt (strB f.pay)))
  have e3 := Q.taketext_strB f.clu 30 (by omega) (by omega) (Q.ub f.frm ++ Q.txt (strB f.pay))
  have e4 := Q.take_ub hf (Q.txt (strB f.pay))
  have e5 := Q.rest_ub hf (Q.txt (strB f.pay))
  have e6 := Q.taketext_strB f.pay 30000 (by omega) (by omega) []
  rw [List.append_nil] at e6
  have en : ((f.kind.toNat : Nat) : Int) = f.kind := by omega
  have en2 : ((f.frm.toNat : Nat) : Int) = f.frm := by omega
  simp only [List.append_assoc]
  unfold parse
  rw [e1, e2]
  dsimp only
  rw [e3]
  dsimp only
  rw [e4, e5]
  dsimp only
  rw [e6, en, en2]
  simp [h]
theorem dec_enc (f : Fr) (h : may f) (c : List UInt8) : dec (enc f) c = if f.clu = c then (0, f) else (6, zero) := by
  have e1 : (inner f).take 3 = head := by simp [inner, head]
  have e2 : (inner f).drop 3 = Q.ub f.kind ++ Q.txt (strB f.clu) ++ Q.ub f.frm ++ Q.txt (strB f.pay) := by simp [inner, head]
  unfold dec enc
  rw [code_sealed, inner_of_sealed, e1, e2, parse_lay f h]
  by_cases hc : f.clu = c <;> simp [hc]
theorem parse_once {l : List UInt8} (h : (parse l).1 = 0) : may (parse l).2 ∧ Q.ub (parse l).2.kind ++ Q.txt (strB (parse l).2.clu) ++ Q.ub (parse l).2.frm ++ Q.txt (strB (parse l).2.pay) = l := by
  unfold parse at h ⊢
  split at h
  · rename_i h1; exact absurd h h1
  rename_i h1
  rw [if_neg h1]
  have h1 := Decidable.byContradiction h1
  split at h
  · rename_i h2; exact absurd h h2
  rename_i h2
  rw [if_neg h2]
  have h2 := Decidable.byContradiction h2
  split at h
  · rename_i h3; exact absurd h h3
  rename_i h3
  rw [if_neg h3]
  have h3 := Decidable.byContradiction h3
  split at h
  · rename_i h4; exact absurd h h4
  rename_i h4
  rw [if_neg h4]
  have h4 := Decidable.byContradiction h4
  split at h
  · rename_i h5
    rw [if_pos h5]
    refine ⟨h5.2, ?_⟩
    have a1 := (Q.take_parts h1).2
    have a2 := (Q.taketext_parts h2).2
    have a3 := (Q.take_parts h3).2
    have a4 := (Q.taketext_parts h4).2
    rw [h5.1, List.append_nil] at a4
    simp only [List.append_assoc]
    rw [a4, a3, a2, a1]
  · exact absurd h (by decide)
theorem dec_once {l c : List UInt8} (h : (dec l c).1 = 0) : may (dec l c).2 ∧ enc (dec l c).2 = l ∧ (dec l c).2.clu = c := by
  unfold dec at h ⊢
  split at h
  · rename_i h1; exact absurd h h1
  rename_i h1
  rw [if_neg h1]
  have h1 : codeOf l = 0 := Decidable.byContradiction h1
  split at h
  · exact absurd h (by decide)
  rename_i h2
  rw [if_neg h2]
  have h2 : (innerOf l).take 3 = head := Decidable.byContradiction h2
  split at h
  · rename_i h3; exact absurd h (by dsimp only at h ⊢; omega)
  rename_i h3
  rw [if_neg h3]
  have h3 := Decidable.byContradiction h3
  split at h
  · exact absurd h (by decide)
  rename_i h4
  rw [if_neg h4]
  have h4 := Decidable.byContradiction h4
  obtain ⟨a1, a2⟩ := parse_once h3
  refine ⟨a1, ?_, h4⟩
  unfold enc
  have e : inner (parse ((innerOf l).drop 3)).2 = innerOf l := by
    unfold inner
    rw [← h2]
    simp only [List.append_assoc] at a2 ⊢
    rw [a2, List.take_append_drop]
  rw [e]
  exact (code_zero h1).2
end F
end Go.Proofs.YtmbfldcmiabccaaGreatDoor

namespace Go.Proofs.YtmbfldcmiabccaaGreatDoor
set_option linter.unusedVariables false
set_option linter.unusedSimpArgs false
/-- a service -/
structure Svc where
  name : List UInt8
  proto : List UInt8
  port : Int
  prio : Int
  wt : Int
  well : Bool
deriving DecidableEq
namespace Y
def none : Svc := ⟨[], [], 0, 0, 0, false⟩
/-- may a byte stand at place i of n -/
def chr (c i n : Nat) : Prop := (97 ≤ c ∧ c ≤ 122) ∨ (48 ≤ c ∧ c ≤ 57) ∨ (c = 45 ∧ 0 < i ∧ i + 1 < n)
instance (c i n : Nat) : Decidable (chr c i n) := by unfold chr; infer_instance
def word (s : List UInt8) : Prop := 1 ≤ s.length ∧ s.length ≤ 20 ∧ ∀ i, i < s.length → chr (s.getD i 0).toNat i s.length
instance (s : List UInt8) : Decidable (word s) := by unfold word; infer_instance
def short (n : Int) : Prop := 0 ≤ n ∧ n ≤ 65535
instance (n : Int) : Decidable (short n) := by unfold short; infer_instance
def right (x : Svc) : Prop := word x.name ∧ word x.proto ∧ 1 ≤ x.port ∧ short x.port ∧ short x.prio ∧ short x.wt
instance (x : Svc) : Decidable (right x) := by unfold right; infer_instance
def bit (b : Bool) : Int := if b then 1 else 0
def val (x : Svc) : List UInt8 := Q.txt (strB x.name) ++ Q.txt (strB x.proto) ++ Q.ub x.port ++ Q.ub x.prio ++ Q.ub x.wt ++ Q.ub (bit x.well)
def enc (x : Svc) : List UInt8 × Int := if right x then (val x, 0) else ([], 1)
/-- numbers, taken one by one -/
def nums : Nat → List Nat → List UInt8 → Nat × List Nat × List UInt8
  | 0, a, l => (0, a, l)
  | k + 1, a, l => if (Q.take l).1 ≠ 0 then ((Q.take l).1, [], []) else nums k (a ++ [(Q.take l).2.1]) (Q.rest l)
/-- what the parts say -/
def made (n p : List UInt8) (a : List Nat) (l : List UInt8) : Svc × Int :=
  if l = [] ∧ a.getD 3 0 ≤ 1 ∧ right ⟨n, p, (a.getD 0 0 : Nat), (a.getD 1 0 : Nat), (a.getD 2 0 : Nat), decide (a.getD 3 0 = 1)⟩ then (⟨n, p, (a.getD 0 0 : Nat), (a.getD 1 0 : Nat), (a.getD 2 0 : Nat), decide (a.getD 3 0 = 1)⟩, 0) else (none, 3)
def dec (v : List UInt8) : Svc × Int :=
  if (Q.taketext v 20).1 ≠ 0 then (none, ((Q.taketext v 20).1 : Int))
  else if (Q.taketext (Q.taketext v 20).2.2 20).1 ≠ 0 then (none, ((Q.taketext (Q.taketext v 20).2.2 20).1 : Int))
  else if (nums 4 [] (Q.taketext (Q.taketext v 20).2.2 20).2.2).1 ≠ 0 then (none, ((nums 4 [] (Q.taketext (Q.taketext v 20).2.2 20).2.2).1 : Int))
  else made (Q.taketext v 20).2.1 (Q.taketext (Q.taketext v 20).2.2 20).2.1 (nums 4 [] (Q.taketext (Q.taketext v 20).2.2 20).2.2).2.1 (nums 4 [] (Q.taketext (Q.taketext v 20).2.2 20).2.2).2.2
theorem dec_e1 {v : List UInt8} (h : (Q.taketext v 20).1 ≠ 0) : dec v = (none, ((Q.taketext v 20).1 : Int)) := by unfold dec; rw [if_pos h]
theorem dec_e2 {v r : List UInt8} {n : List UInt8} (h : Q.taketext v 20 = (0, n, r)) (h2 : (Q.taketext r 20).1 ≠ 0) : dec v = (none, ((Q.taketext r 20).1 : Int)) := by
  unfold dec
  rw [h]
  simp only [ne_eq, not_true_eq_false, if_false]
  rw [if_pos h2]
theorem dec_e3 {v r r2 : List UInt8} {n p : List UInt8} (h : Q.taketext v 20 = (0, n, r)) (h2 : Q.taketext r 20 = (0, p, r2)) (h3 : (nums 4 [] r2).1 ≠ 0) : dec v = (none, ((nums 4 [] r2).1 : Int)) := by
  unfold dec
  rw [h]
  simp only [ne_eq, not_true_eq_false, if_false]
  rw [h2]
  simp only [ne_eq, not_true_eq_false, if_false]
  rw [if_pos h3]
theorem dec_is {v r r2 l : List UInt8} {n p : List UInt8} {a : List Nat} (h : Q.taketext v 20 = (0, n, r)) (h2 : Q.taketext r 20 = (0, p, r2)) (h3 : nums 4 [] r2 = (0, a, l)) : dec v = made n p a l := by
  unfold dec
  rw [h]
  simp only [ne_eq, not_true_eq_false, if_false]
  rw [h2]
  simp only [ne_eq, not_true_eq_false, if_false]
  rw [h3]
  simp only [ne_eq, not_true_eq_false, if_false]
theorem word_len {s : List UInt8} (h : word s) : 1 ≤ s.length ∧ s.length ≤ 20 := ⟨h.1, h.2.1⟩
theorem dec_enc {x : Svc} (h : right x) : enc x = (val x, 0) := if_pos h
/-- what a taken text was -/
theorem taketext_once {l t r : List UInt8} {most : Int} (h : Q.taketext l most = (0, t, r)) : Q.txt (strB t) ++ r = l ∧ (t.length : Int) ≤ most := by
  unfold Q.taketext at h
  split at h
  · rename_i h0; injection h with h1 _; exact absurd h1 h0
  · rename_i h0
    split at h
    · injection h with h1 _; cases h1
    · rename_i hm
      split at h
      · injection h with h1 _; cases h1
      · rename_i hl
        simp only [Prod.mk.injEq, true_and] at h
        obtain ⟨rfl, rfl⟩ := h
        have h0' : (Q.take l).1 = 0 := by simpa using h0
        rcases hq : Q.take l with ⟨e, N, k⟩
        rw [hq] at h0' hm hl
        simp only at h0' hm hl ⊢
        subst h0'
        obtain ⟨m1, m2, m3, m4, m5, m6⟩ := Q.take_once hq
        have hr : Q.rest l = l.drop k := by unfold Q.rest; rw [hq]; rfl
        rw [hr] at hl ⊢
        have hlen : ((l.drop k).take N).length = N := by rw [List.length_take]; omega
        refine ⟨?_, by rw [hlen]; omega⟩
        have hsz : (strB ((l.drop k).take N)).size = N := by rw [strB_size, hlen]
        unfold Q.txt
        rw [hsz, m6]
        show l.take k ++ (l.drop k).take N ++ (l.drop k).drop N = l
        rw [List.append_assoc, List.take_append_drop, List.take_append_drop]
theorem nums_once : ∀ (k : Nat) (a : List Nat) (l : List UInt8) (b : List Nat) (r : List UInt8), nums k a l = (0, b, r) → ∃ c : List Nat, b = a ++ c ∧ c.length = k ∧ (c.flatMap fun n : Nat => Q.ub (n : Int)) ++ r = l
  | 0, a, l, b, r, h => by
    obtain ⟨rfl, rfl⟩ : a = b ∧ l = r := by simpa [nums] using h
    exact ⟨[], by simp, rfl, rfl⟩
  | k + 1, a, l, b, r, h => by
    unfold nums at h
    split at h
    · rename_i h0; injection h with h1 _; exact absurd h1 h0
    · rename_i h0
      have h0' : (Q.take l).1 = 0 := by simpa using h0
      obtain ⟨c, h1, h2, h3⟩ := nums_once k _ _ _ _ h
      rcases hq : Q.take l with ⟨e, N, j⟩
      rw [hq] at h0' h1
      simp only at h0' h1
      subst h0'
      obtain ⟨m1, m2, m3, m4, m5, m6⟩ := Q.take_once hq
      have hr : Q.rest l = l.drop j := by unfold Q.rest; rw [hq]; rfl
      refine ⟨N :: c, by rw [h1]; simp, by simp [h2], ?_⟩
      rw [List.flatMap_cons, List.append_assoc, h3, hr, m6, List.take_append_drop]
/-- what is decoded has just that value -/
theorem dec_once {v : List UInt8} (h : (dec v).2 = 0) : right (dec v).1 ∧ val (dec v).1 = v := by
  by_cases e1 : (Q.taketext v 20).1 = 0
  · rcases h1 : Q.taketext v 20 with ⟨z1, n, r⟩
    rw [h1] at e1
    simp only at e1
    subst e1
    by_cases e2 : (Q.taketext r 20).1 = 0
    · rcases h2 : Q.taketext r 20 with ⟨z2, p, r2⟩
      rw [h2] at e2
      simp only at e2
      subst e2
      by_cases e3 : (nums 4 [] r2).1 = 0
      · rcases h3 : nums 4 [] r2 with ⟨z3, a, l⟩
        rw [h3] at e3
        simp only at e3
        subst e3
        rw [dec_is h1 h2 h3] at h ⊢
        unfold made at h ⊢
        split
        · rename_i hc
          obtain ⟨rfl, hb, hr⟩ := hc
          refine ⟨hr, ?_⟩
          obtain ⟨c, hc1, hc2, hc3⟩ := nums_once _ _ _ _ _ h3
          rw [List.nil_append] at hc1
          subst hc1
          match a, hc2, hb, hc3, hr with
          | [x0, x1, x2, x3], _, hb, hc3, hr =>
            have g1 := (taketext_once h1).1
            have g2 := (taketext_once h2).1
            have hx3 : bit (decide (x3 = 1)) = (x3 : Int) := by
              have : x3 ≤ 1 := hb
              unfold bit
              by_cases e : x3 = 1
              · subst e; rfl
              · obtain rfl : x3 = 0 := by omega
                rfl
            unfold val
            show Q.txt (strB n) ++ Q.txt (strB p) ++ Q.ub (x0 : Int) ++ Q.ub (x1 : Int) ++ Q.ub (x2 : Int) ++ Q.ub (bit (decide (x3 = 1))) = v
            rw [hx3, ← g1, ← g2, ← hc3]
            simp only [List.flatMap_cons, List.flatMap_nil, List.append_assoc, List.append_nil]
        · rename_i hc
          rw [if_neg hc] at h
          cases h
      · rw [dec_e3 h1 h2 e3] at h
        exact absurd h (by simpa using e3)
    · rw [dec_e2 h1 e2] at h
      exact absurd h (by simpa using e2)
  · rw [dec_e1 e1] at h
    exact absurd h (by simpa using e1)
end Y
end Go.Proofs.YtmbfldcmiabccaaGreatDoor

namespace Go.Proofs.YtmbfldcmiabccaaGreatDoor
set_option linter.unusedVariables false
set_option linter.unusedSimpArgs false
open Go.RowKit
def BoolY (b : Bool) (w : World) (e : Ending) (w' : World) : Prop := e = .returned (.bool b) ∧ w = w'
theorem str_at {w : World} {l : List UInt8} {k : Nat} {x : UInt8} (h : l[k]? = some x) : (Instr.index 9 (.string (strB l)) (.int .i64 (k : Int))).run Tryz.prog w = .ok (.int .u8 (x.toNat : Int)) w := by
  obtain ⟨hk, rfl⟩ := List.getElem?_eq_some_iff.1 h
  have hs : (strB l).size = l.length := strB_size l
  rw [run_index_string w 9 (strB l) .i64 (k : Int) Tryz.underlying9, dif_pos ⟨by omega, by omega⟩]
  rfl
theorem chr_step {s : List UInt8} {k : Nat} {x : UInt8} (hx : s[k]? = some x) (h : ∀ i, i < k → Y.chr (s.getD i 0).toNat i s.length) (hc : Y.chr x.toNat k s.length) : ∀ i, i < k + 1 → Y.chr (s.getD i 0).toNat i s.length := fun i hi => by
  by_cases e : i = k
  · subst e
    rw [List.getD_eq_getElem?_getD, hx]
    exact hc
  · exact h i (by omega)
theorem word_no {s : List UInt8} {k : Nat} {x : UInt8} (hx : s[k]? = some x) (hc : ¬ Y.chr x.toNat k s.length) : decide (Y.word s) = false := decide_eq_false fun h => hc (by
  have hk := (List.getElem?_eq_some_iff.1 hx).1
  have := h.2.2 k hk
  rwa [List.getD_eq_getElem?_getD, hx] at this)
set_option maxHeartbeats 4000000 in
set_option maxRecDepth 20000 in
theorem ryword_any (l : List UInt8) (n : Nat) (hn : l.length = n) (hm : n ≤ 4611686018427387904) (w : World) : Calls Tryz.prog 72 #[.string (strB l)] w (BoolY (decide (Y.word l)) w) := by
  have hsz : (strB l).size = n := by rw [strB_size, hn]
  have HN := Lib.hid hn
  clear hn
  go_enter Tryz.func72, Tryz.ntmps72
  go_wp2
  go_loop [3] (fun v => ∃ k : Nat, k ≤ n ∧ k ≤ 21 ∧ v = .int .i64 (k : Int) ∧ ∀ i, i < k → Y.chr (l.getD i 0).toNat i l.length) (fun v => 21 - (intOf v).toNat)
  case atStart => exact ⟨0, by omega, by omega, rfl, fun i hi => by omega⟩
  case round =>
    obtain ⟨k, hk, hk21, rfl, hno⟩ := hrel
    have HNO := Lib.hid hno
    clear hno
    have hk0 : (0 : Int) ≤ (k : Int) := by omega
    by_cases hlt : k < n ∧ k < 21
    · obtain ⟨h1, h2⟩ := hlt
      obtain ⟨x, hx⟩ : ∃ x, l[k]? = some x := ⟨_, List.getElem?_eq_getElem (by have := HN.out; omega)⟩
      have g1 : decide ((k : Int) < (n : Int)) = true := decide_eq_true (by omega)
      have g2 : decide ((k : Int) < 21) = true := decide_eq_true (by omega)
      have g2' : decide (k < 21) = true := decide_eq_true (by omega)
      have IX := str_at (w := w) hx
      have HX := Lib.hid hx
      have hx256 : x.toNat < 256 := x.toNat_lt
      obtain ⟨c, hc⟩ : ∃ c : Int, (x.toNat : Int) = c := ⟨_, rfl⟩
      rw [hc] at IX
      have HC := Lib.hid hc
      clear hx hc
      obtain ⟨d, hd⟩ : ∃ d : Int, (n : Int) - 1 = d := ⟨_, rfl⟩
      have w1 : wrap64 ((n : Int) - 1) = d := by rw [← hd]; unfold wrap64; omega
      have w2 : IntKind.i64.wrap ((n : Int) - 1) = d := by rw [← hd]; exact IntWalk.i64_in _ (by omega)
      have HD := Lib.hid hd
      clear hd
      have yes : Y.chr x.toNat k l.length → ∃ k' : Nat, k' ≤ n ∧ k' ≤ 21 ∧ Value.int .i64 ((k : Int) + 1) = .int .i64 (k' : Int) ∧ ∀ i, i < k' → Y.chr (l.getD i 0).toNat i l.length := fun hc => ⟨k + 1, by omega, by omega, by go_num, chr_step HX.out HNO.out hc⟩
      have YES := Lib.hid yes
      have no : ¬ Y.chr x.toNat k l.length → BoolY (decide (Y.word l)) w (.returned (.bool false)) w := fun hc => ⟨ret_bool (word_no HX.out hc).symm, rfl⟩
      have NO := Lib.hid no
      clear yes no
      by_cases a : 97 ≤ c
      · by_cases b : c ≤ 122
        · skip
          have f1 : decide (97 ≤ c) = true := decide_eq_true (by omega)
          have f2 : decide (c ≤ 122) = true := decide_eq_true (by omega)
          have Z : Hid _ := Lib.hid (YES.out (by unfold Y.chr; have h7 := HC.out; have h8 := HN.out; omega))
          clear a b
          go_wp2
          go_round
          case rel => exact Z.out
          case measure => simp [intOf]; omega
        · skip
          have f1 : decide (97 ≤ c) = true := decide_eq_true (by omega)
          have f2 : decide (c ≤ 122) = false := decide_eq_false (by omega)
          have f3 : decide (48 ≤ c) = true := decide_eq_true (by omega)
          have f4 : decide (c ≤ 57) = false := decide_eq_false (by omega)
          have f5 : (c == 45) = false := by rw [beq_eq_false_iff_ne]; omega
          have Z : Hid _ := Lib.hid (NO.out (by unfold Y.chr; have h7 := HC.out; have h8 := HN.out; omega))
          clear a b
          go_wp2
          go_ret
          exact Z.out
      · by_cases b : 48 ≤ c
        · by_cases b2 : c ≤ 57
          · skip
            have f1 : decide (97 ≤ c) = false := decide_eq_false (by omega)
            have f3 : decide (48 ≤ c) = true := decide_eq_true (by omega)
            have f4 : decide (c ≤ 57) = true := decide_eq_true (by omega)
            have Z : Hid _ := Lib.hid (YES.out (by unfold Y.chr; have h7 := HC.out; have h8 := HN.out; omega))
            clear a b b2
            go_wp2
            go_round
            case rel => exact Z.out
            case measure => simp [intOf]; omega
          · skip
            have f1 : decide (97 ≤ c) = false := decide_eq_false (by omega)
            have f3 : decide (48 ≤ c) = true := decide_eq_true (by omega)
            have f4 : decide (c ≤ 57) = false := decide_eq_false (by omega)
            have f5 : (c == 45) = false := by rw [beq_eq_false_iff_ne]; omega
            have Z : Hid _ := Lib.hid (NO.out (by unfold Y.chr; have h7 := HC.out; have h8 := HN.out; omega))
            clear a b b2
            go_wp2
            go_ret
            exact Z.out
        · by_cases e : c = 45
          · by_cases pp : 0 < k
            · by_cases q : k + 1 < n
              · skip
                have f1 : decide (97 ≤ c) = false := decide_eq_false (by omega)
                have f3 : decide (48 ≤ c) = false := decide_eq_false (by omega)
                have f5 : (c == 45) = true := by rw [beq_iff_eq]; omega
                have f6 : decide ((0 : Int) < (k : Int)) = true := decide_eq_true (by omega)
                have f6' : decide (0 < k) = true := decide_eq_true (by omega)
                have f7 : decide ((k : Int) < d) = true := decide_eq_true (by have := HD.out; omega)
                have Z : Hid _ := Lib.hid (YES.out (by unfold Y.chr; have h7 := HC.out; have h8 := HN.out; omega))
                clear a b e
                go_wp2
                go_round
                case rel => exact Z.out
                case measure => simp [intOf]; omega
              · skip
                have f1 : decide (97 ≤ c) = false := decide_eq_false (by omega)
                have f3 : decide (48 ≤ c) = false := decide_eq_false (by omega)
                have f5 : (c == 45) = true := by rw [beq_iff_eq]; omega
                have f6 : decide ((0 : Int) < (k : Int)) = true := decide_eq_true (by omega)
                have f6' : decide (0 < k) = true := decide_eq_true (by omega)
                have f7 : decide ((k : Int) < d) = false := decide_eq_false (by have := HD.out; omega)
                have Z : Hid _ := Lib.hid (NO.out (by unfold Y.chr; have h7 := HC.out; have h8 := HN.out; omega))
                clear a b e
                go_wp2
                go_ret
                exact Z.out
            · skip
              have f1 : decide (97 ≤ c) = false := decide_eq_false (by omega)
              have f3 : decide (48 ≤ c) = false := decide_eq_false (by omega)
              have f5 : (c == 45) = true := by rw [beq_iff_eq]; omega
              have f6 : decide ((0 : Int) < (k : Int)) = false := decide_eq_false (by omega)
              have f6' : decide (0 < k) = false := decide_eq_false (by omega)
              have Z : Hid _ := Lib.hid (NO.out (by unfold Y.chr; have h7 := HC.out; have h8 := HN.out; omega))
              clear a b e
              go_wp2
              go_ret
              exact Z.out
          · skip
            have f1 : decide (97 ≤ c) = false := decide_eq_false (by omega)
            have f3 : decide (48 ≤ c) = false := decide_eq_false (by omega)
            have f5 : (c == 45) = false := by rw [beq_eq_false_iff_ne]; omega
            have Z : Hid _ := Lib.hid (NO.out (by unfold Y.chr; have h7 := HC.out; have h8 := HN.out; omega))
            clear a b e
            go_wp2
            go_ret
            exact Z.out
    · skip
      have END : Hid (decide (Y.word l) = decide (1 ≤ n ∧ n ≤ 20)) := Lib.hid (decide_eq_decide.2 (by
        have h8 := HN.out
        constructor
        · rintro ⟨h1, h2, _⟩
          omega
        · rintro ⟨h1, h2⟩
          refine ⟨by omega, by omega, fun i hi => HNO.out i (by omega)⟩))
      have g3 : (decide ((k : Int) < (n : Int)) && decide ((k : Int) < 21)) = false := by rw [Bool.and_eq_false_iff]; by_cases h : k < n; exact Or.inr (decide_eq_false (by omega)); exact Or.inl (decide_eq_false (by omega))
      clear HNO
      by_cases hkn : k < n
      · have g1 : decide ((k : Int) < (n : Int)) = true := decide_eq_true (by omega)
        have g2 : decide ((k : Int) < 21) = false := decide_eq_false (by omega)
        have g2' : decide (k < 21) = false := decide_eq_false (by omega)
        by_cases m1 : 1 ≤ n
        · have f1 : decide ((1 : Int) ≤ (n : Int)) = true := decide_eq_true (by omega)
          have f1' : decide (1 ≤ n) = true := decide_eq_true (by omega)
          by_cases m2 : n ≤ 20
          · have f2 : decide ((n : Int) ≤ 20) = true := decide_eq_true (by omega)
            have f2' : decide (n ≤ 20) = true := decide_eq_true (by omega)
            have Z : Hid (decide (Y.word l) = true) := Lib.hid (END.out.trans (decide_eq_true ⟨m1, m2⟩))
            go_wp2
            go_ret
            exact ⟨ret_bool Z.out.symm, rfl⟩
          · have f2 : decide ((n : Int) ≤ 20) = false := decide_eq_false (by omega)
            have f2' : decide (n ≤ 20) = false := decide_eq_false (by omega)
            have Z : Hid (decide (Y.word l) = false) := Lib.hid (END.out.trans (decide_eq_false (fun h => m2 h.2)))
            go_wp2
            go_ret
            exact ⟨ret_bool Z.out.symm, rfl⟩
        · have f1 : decide ((1 : Int) ≤ (n : Int)) = false := decide_eq_false (by omega)
          have f1' : decide (1 ≤ n) = false := decide_eq_false (by omega)
          have Z : Hid (decide (Y.word l) = false) := Lib.hid (END.out.trans (decide_eq_false (fun h => m1 h.1)))
          go_wp2
          go_ret
          exact ⟨ret_bool Z.out.symm, rfl⟩
      · have g1 : decide ((k : Int) < (n : Int)) = false := decide_eq_false (by omega)
        by_cases m1 : 1 ≤ n
        · have f1 : decide ((1 : Int) ≤ (n : Int)) = true := decide_eq_true (by omega)
          have f1' : decide (1 ≤ n) = true := decide_eq_true (by omega)
          by_cases m2 : n ≤ 20
          · have f2 : decide ((n : Int) ≤ 20) = true := decide_eq_true (by omega)
            have f2' : decide (n ≤ 20) = true := decide_eq_true (by omega)
            have Z : Hid (decide (Y.word l) = true) := Lib.hid (END.out.trans (decide_eq_true ⟨m1, m2⟩))
            go_wp2
            go_ret
            exact ⟨ret_bool Z.out.symm, rfl⟩
          · have f2 : decide ((n : Int) ≤ 20) = false := decide_eq_false (by omega)
            have f2' : decide (n ≤ 20) = false := decide_eq_false (by omega)
            have Z : Hid (decide (Y.word l) = false) := Lib.hid (END.out.trans (decide_eq_false (fun h => m2 h.2)))
            go_wp2
            go_ret
            exact ⟨ret_bool Z.out.symm, rfl⟩
        · have f1 : decide ((1 : Int) ≤ (n : Int)) = false := decide_eq_false (by omega)
          have f1' : decide (1 ≤ n) = false := decide_eq_false (by omega)
          have Z : Hid (decide (Y.word l) = false) := Lib.hid (END.out.trans (decide_eq_false (fun h => m1 h.1)))
          go_wp2
          go_ret
          exact ⟨ret_bool Z.out.symm, rfl⟩
end Go.Proofs.YtmbfldcmiabccaaGreatDoor

