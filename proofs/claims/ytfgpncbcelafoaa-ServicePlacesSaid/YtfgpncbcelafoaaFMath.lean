/- Plain mathematics of frames: their bytes, what bytes are a frame of, there and back. -/
import Derived.Test.YtfgpncbcelafoaaQMath2
import Derived.Test.YtfgpncbcelafoaaSCode
import Derived.Test.YtfgpncbcelafoaaMem
namespace Go.Proofs.Ytfgpncbcelafoaa
set_option linter.unusedVariables false
set_option linter.unusedSimpArgs false

namespace Q
theorem take_parts {l : List UInt8} (h : (take l).1 = 0) : may ((take l).2.1 : Int) ∧ ub ((take l).2.1 : Int) ++ rest l = l := by
  obtain ⟨N, k, et⟩ : ∃ N k, take l = (0, N, k) := ⟨(take l).2.1, (take l).2.2, by rw [← h]⟩
  obtain ⟨hm, _, _, _, _, hu⟩ := take_once et
  have er : rest l = l.drop k := by simp [rest, et]
  rw [et, er]
  exact ⟨hm, by show ub (N : Int) ++ _ = _; rw [hu, List.take_append_drop]⟩
theorem rest_le (l : List UInt8) : (rest l).length ≤ l.length := by
  unfold rest
  split
  · rw [List.length_drop]; omega
  · simp
theorem taketext_parts {l : List UInt8} {most : Int} (h : (taketext l most).1 = 0) : ((taketext l most).2.1.length : Int) ≤ most ∧ txt (strB (taketext l most).2.1) ++ (taketext l most).2.2 = l := by
  unfold taketext at h ⊢
  split at h
  · rename_i h1; exact absurd h h1
  · rename_i h1
    rw [if_neg h1]
    have h1 : (take l).1 = 0 := Decidable.byContradiction h1
    split at h
    · exact absurd h (by decide)
    · rename_i h2
      rw [if_neg h2]
      split at h
      · exact absurd h (by decide)
      · rename_i h3
        rw [if_neg h3]
        have hl : ((rest l).take (take l).2.1).length = (take l).2.1 := by rw [List.length_take]; omega
        refine ⟨by show (((rest l).take (take l).2.1).length : Int) ≤ most; omega, ?_⟩
        show txt (strB ((rest l).take (take l).2.1)) ++ (rest l).drop (take l).2.1 = l
        rw [txt, strB_size, hl, strB_data, List.append_assoc, List.take_append_drop]
        exact (take_parts h1).2
theorem taketext_strB (s : List UInt8) (most : Int) (h : (s.length : Int) ≤ most) (h2 : s.length ≤ 4611686018427387904) (more : List UInt8) : taketext (txt (strB s) ++ more) most = (0, s, more) := by
  have := taketext_txt (strB s) most (by rw [strB_size]; exact h) (by rw [strB_size]; exact h2) more
  rwa [strB_data] at this
theorem taketext_le (l : List UInt8) (most : Int) : (taketext l most).2.1.length ≤ l.length ∧ (taketext l most).2.2.length ≤ l.length := by
  have := rest_le l
  unfold taketext
  split
  · simp
  · split
    · simp
    · split
      · simp
      · simp only [List.length_take, List.length_drop]; omega
end Q

/-- a frame's parts -/
structure Fr where
  kind : Int
  clu : List UInt8
  frm : Int
  pay : List UInt8
deriving DecidableEq

namespace F
def zero : Fr := ⟨0, [], 0, []⟩
def may (f : Fr) : Prop := 1 ≤ f.kind ∧ f.kind ≤ 7 ∧ 1 ≤ f.clu.length ∧ f.clu.length ≤ 30 ∧ 0 ≤ f.frm ∧ f.frm < 8 ∧ f.pay.length ≤ 30000
instance (f : Fr) : Decidable (may f) := by unfold may; exact inferInstance
def head : List UInt8 := [66, 87, 1]
def inner (f : Fr) : List UInt8 := head ++ Q.ub f.kind ++ Q.txt (strB f.clu) ++ Q.ub f.frm ++ Q.txt (strB f.pay)
def enc (f : Fr) : List UInt8 := S.sealed (inner f)

/-- what the bytes behind the head are: the error's number, the frame -/
def parse (l : List UInt8) : Nat × Fr :=
  if (Q.take l).1 ≠ 0 then ((Q.take l).1, zero)
  else if (Q.taketext (Q.rest l) 30).1 ≠ 0 then ((Q.taketext (Q.rest l) 30).1, zero)
  else if (Q.take (Q.taketext (Q.rest l) 30).2.2).1 ≠ 0 then ((Q.take (Q.taketext (Q.rest l) 30).2.2).1, zero)
  else if (Q.taketext (Q.rest (Q.taketext (Q.rest l) 30).2.2) 30000).1 ≠ 0 then ((Q.taketext (Q.rest (Q.taketext (Q.rest l) 30).2.2) 30000).1, zero)
  else if (Q.taketext (Q.rest (Q.taketext (Q.rest l) 30).2.2) 30000).2.2 = [] ∧
      may ⟨(Q.take l).2.1, (Q.taketext (Q.rest l) 30).2.1, (Q.take (Q.taketext (Q.rest l) 30).2.2).2.1, (Q.taketext (Q.rest (Q.taketext (Q.rest l) 30).2.2) 30000).2.1⟩ then
    (0, ⟨(Q.take l).2.1, (Q.taketext (Q.rest l) 30).2.1, (Q.take (Q.taketext (Q.rest l) 30).2.2).2.1, (Q.taketext (Q.rest (Q.taketext (Q.rest l) 30).2.2) 30000).2.1⟩)
  else (3, zero)
/-- what bytes are, in a cluster -/
def dec (l c : List UInt8) : Int × Fr :=
  if codeOf l ≠ 0 then (codeOf l, zero)
  else if (innerOf l).take 3 ≠ head then (3, zero)
  else if (parse ((innerOf l).drop 3)).1 ≠ 0 then ((parse ((innerOf l).drop 3)).1, zero)
  else if (parse ((innerOf l).drop 3)).2.clu ≠ c then (6, zero)
  else (0, (parse ((innerOf l).drop 3)).2)

theorem parse_lay (f : Fr) (h : may f) : parse (Q.ub f.kind ++ Q.txt (strB f.clu) ++ Q.ub f.frm ++ Q.txt (strB f.pay)) = (0, f) := by
  obtain ⟨h1, h2, h3, h4, h5, h6, h7⟩ := id h
  have hk : Q.may f.kind := ⟨by omega, by omega⟩
  have hf : Q.may f.frm := ⟨by omega, by omega⟩
  have e1 := Q.take_ub hk (Q.txt (strB f.clu) ++ (Q.ub f.frm ++ Q.txt (strB f.pay)))
  have e2 := Q.rest_ub hk (Q.txt (strB f.clu) ++ (Q.ub f.frm ++ Q.txt (strB f.pay)))
  have e3 := Q.taketext_strB f.clu 30 (by omega) (by omega) (Q.ub f.frm ++ Q.txt (strB f.pay))
  have e4 := Q.take_ub hf (Q.txt (strB f.pay))
  have e5 := Q.rest_ub hf (Q.txt (strB f.pay))
  have e6 := Q.taketext_strB f.pay 30000 (by omega) (by omega) []
  rw [List.append_nil] at e6
  have en : ((f.kind.toNat : Nat) : Int) = f.kind := by omega
  have en2 : ((f.frm.toNat : Nat) : Int) = f.frm := by omega
  simp only [List.append_assoc]
  unfold parse
  rw [e1, e2]
  dsimp only
  rw [e3]
  dsimp only
  rw [e4, e5]
  dsimp only
  rw [e6, en, en2]
  simp [h]
theorem dec_enc (f : Fr) (h : may f) (c : List UInt8) : dec (enc f) c = if f.clu = c then (0, f) else (6, zero) := by
  have e1 : (inner f).take 3 = head := by simp [inner, head]
  have e2 : (inner f).drop 3 = Q.ub f.kind ++ Q.txt (strB f.clu) ++ Q.ub f.frm ++ Q.txt (strB f.pay) := by simp [inner, head]
  unfold dec enc
  rw [code_sealed, inner_of_sealed, e1, e2, parse_lay f h]
  by_cases hc : f.clu = c <;> simp [hc]
theorem parse_once {l : List UInt8} (h : (parse l).1 = 0) : may (parse l).2 ∧ Q.ub (parse l).2.kind ++ Q.txt (strB (parse l).2.clu) ++ Q.ub (parse l).2.frm ++ Q.txt (strB (parse l).2.pay) = l := by
  unfold parse at h ⊢
  split at h
  · rename_i h1; exact absurd h h1
  rename_i h1
  rw [if_neg h1]
  have h1 := Decidable.byContradiction h1
  split at h
  · rename_i h2; exact absurd h h2
  rename_i h2
  rw [if_neg h2]
  have h2 := Decidable.byContradiction h2
  split at h
  · rename_i h3; exact absurd h h3
  rename_i h3
  rw [if_neg h3]
  have h3 := Decidable.byContradiction h3
  split at h
  · rename_i h4; exact absurd h h4
  rename_i h4
  rw [if_neg h4]
  have h4 := Decidable.byContradiction h4
  split at h
  · rename_i h5
    rw [if_pos h5]
    refine ⟨h5.2, ?_⟩
    have a1 := (Q.take_parts h1).2
    have a2 := (Q.taketext_parts h2).2
    have a3 := (Q.take_parts h3).2
    have a4 := (Q.taketext_parts h4).2
    rw [h5.1, List.append_nil] at a4
    simp only [List.append_assoc]
    rw [a4, a3, a2, a1]
  · exact absurd h (by decide)
theorem dec_once {l c : List UInt8} (h : (dec l c).1 = 0) : may (dec l c).2 ∧ enc (dec l c).2 = l ∧ (dec l c).2.clu = c := by
  unfold dec at h ⊢
  split at h
  · rename_i h1; exact absurd h h1
  rename_i h1
  rw [if_neg h1]
  have h1 : codeOf l = 0 := Decidable.byContradiction h1
  split at h
  · exact absurd h (by decide)
  rename_i h2
  rw [if_neg h2]
  have h2 : (innerOf l).take 3 = head := Decidable.byContradiction h2
  split at h
  · rename_i h3; exact absurd h (by dsimp only at h ⊢; omega)
  rename_i h3
  rw [if_neg h3]
  have h3 := Decidable.byContradiction h3
  split at h
  · exact absurd h (by decide)
  rename_i h4
  rw [if_neg h4]
  have h4 := Decidable.byContradiction h4
  obtain ⟨a1, a2⟩ := parse_once h3
  refine ⟨a1, ?_, h4⟩
  unfold enc
  have e : inner (parse ((innerOf l).drop 3)).2 = innerOf l := by
    unfold inner
    rw [← h2]
    simp only [List.append_assoc] at a2 ⊢
    rw [a2, List.take_append_drop]
  rw [e]
  exact (code_zero h1).2
theorem dec_err {l c : List UInt8} (h : (dec l c).1 ≠ 0) : (dec l c).2 = zero := by
  unfold dec at h ⊢
  split
  · rfl
  rename_i h1
  rw [if_neg h1] at h
  split
  · rfl
  rename_i h2
  rw [if_neg h2] at h
  split
  · rfl
  rename_i h3
  rw [if_neg h3] at h
  split
  · rfl
  rename_i h4
  rw [if_neg h4] at h
  exact absurd rfl h
theorem parse_err {l : List UInt8} (h : (parse l).1 ≠ 0) : (parse l).2 = zero := by
  unfold parse at h ⊢
  split
  · rfl
  rename_i h1
  rw [if_neg h1] at h
  split
  · rfl
  rename_i h2
  rw [if_neg h2] at h
  split
  · rfl
  rename_i h3
  rw [if_neg h3] at h
  split
  · rfl
  rename_i h4
  rw [if_neg h4] at h
  split
  · rename_i h5; rw [if_pos h5] at h; exact absurd rfl h
  · rfl
theorem dec_sum {l : List UInt8} (h4 : 4 ≤ l.length) (h : ¬ S.ok l) (c : List UInt8) : dec l c = (5, zero) := by
  have e : codeOf l = 5 := by unfold codeOf; rw [if_neg (by omega), if_neg h]
  unfold dec
  rw [e]; rfl
theorem length_enc_le (f : Fr) (h : may f) : (enc f).length ≤ f.clu.length + f.pay.length + 43 := by
  have h1 := Q.size_le f.kind
  have h2 := Q.size_le f.frm
  have h3 := Q.size_le f.clu.length
  have h4 := Q.size_le f.pay.length
  unfold enc inner
  rw [S.length_sealed]
  simp only [List.length_append, Q.length_ub, Q.length_txt, strB_size]
  have : head.length = 3 := rfl
  omega
end F
end Go.Proofs.Ytfgpncbcelafoaa
