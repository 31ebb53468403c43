/- Services and their values, plainly (no program). -/
import Derived.Test.YtfgpncbcelafoaaFMath
namespace Go.Proofs.Ytfgpncbcelafoaa
set_option linter.unusedVariables false
set_option linter.unusedSimpArgs false
/-- a service -/
structure Svc where
  name : List UInt8
  proto : List UInt8
  port : Int
  prio : Int
  wt : Int
  well : Bool
deriving DecidableEq
namespace Y
def none : Svc := ⟨[], [], 0, 0, 0, false⟩
/-- may a byte stand at place i of n -/
def chr (c i n : Nat) : Prop := (97 ≤ c ∧ c ≤ 122) ∨ (48 ≤ c ∧ c ≤ 57) ∨ (c = 45 ∧ 0 < i ∧ i + 1 < n)
instance (c i n : Nat) : Decidable (chr c i n) := by unfold chr; infer_instance
def word (s : List UInt8) : Prop := 1 ≤ s.length ∧ s.length ≤ 20 ∧ ∀ i, i < s.length → chr (s.getD i 0).toNat i s.length
instance (s : List UInt8) : Decidable (word s) := by unfold word; infer_instance
def short (n : Int) : Prop := 0 ≤ n ∧ n ≤ 65535
instance (n : Int) : Decidable (short n) := by unfold short; infer_instance
def right (x : Svc) : Prop := word x.name ∧ word x.proto ∧ 1 ≤ x.port ∧ short x.port ∧ short x.prio ∧ short x.wt
instance (x : Svc) : Decidable (right x) := by unfold right; infer_instance
def bit (b : Bool) : Int := if b then 1 else 0
def val (x : Svc) : List UInt8 := Q.txt (strB x.name) ++ Q.txt (strB x.proto) ++ Q.ub x.port ++ Q.ub x.prio ++ Q.ub x.wt ++ Q.ub (bit x.well)
def enc (x : Svc) : List UInt8 × Int := if right x then (val x, 0) else ([], 1)
/-- numbers, taken one by one -/
def nums : Nat → List Nat → List UInt8 → Nat × List Nat × List UInt8
  | 0, a, l => (0, a, l)
  | k + 1, a, l => if (Q.take l).1 ≠ 0 then ((Q.take l).1, [], []) else nums k (a ++ [(Q.take l).2.1]) (Q.rest l)
/-- what the parts say -/
def made (n p : List UInt8) (a : List Nat) (l : List UInt8) : Svc × Int :=
  if l = [] ∧ a.getD 3 0 ≤ 1 ∧ right ⟨n, p, (a.getD 0 0 : Nat), (a.getD 1 0 : Nat), (a.getD 2 0 : Nat), decide (a.getD 3 0 = 1)⟩ then (⟨n, p, (a.getD 0 0 : Nat), (a.getD 1 0 : Nat), (a.getD 2 0 : Nat), decide (a.getD 3 0 = 1)⟩, 0) else (none, 3)
def dec (v : List UInt8) : Svc × Int :=
  if (Q.taketext v 20).1 ≠ 0 then (none, ((Q.taketext v 20).1 : Int))
  else if (Q.taketext (Q.taketext v 20).2.2 20).1 ≠ 0 then (none, ((Q.taketext (Q.taketext v 20).2.2 20).1 : Int))
  else if (nums 4 [] (Q.taketext (Q.taketext v 20).2.2 20).2.2).1 ≠ 0 then (none, ((nums 4 [] (Q.taketext (Q.taketext v 20).2.2 20).2.2).1 : Int))
  else made (Q.taketext v 20).2.1 (Q.taketext (Q.taketext v 20).2.2 20).2.1 (nums 4 [] (Q.taketext (Q.taketext v 20).2.2 20).2.2).2.1 (nums 4 [] (Q.taketext (Q.taketext v 20).2.2 20).2.2).2.2
theorem dec_e1 {v : List UInt8} (h : (Q.taketext v 20).1 ≠ 0) : dec v = (none, ((Q.taketext v 20).1 : Int)) := by unfold dec; rw [if_pos h]
theorem dec_e2 {v r : List UInt8} {n : List UInt8} (h : Q.taketext v 20 = (0, n, r)) (h2 : (Q.taketext r 20).1 ≠ 0) : dec v = (none, ((Q.taketext r 20).1 : Int)) := by
  unfold dec
  rw [h]
  simp only [ne_eq, not_true_eq_false, if_false]
  rw [if_pos h2]
theorem dec_e3 {v r r2 : List UInt8} {n p : List UInt8} (h : Q.taketext v 20 = (0, n, r)) (h2 : Q.taketext r 20 = (0, p, r2)) (h3 : (nums 4 [] r2).1 ≠ 0) : dec v = (none, ((nums 4 [] r2).1 : Int)) := by
  unfold dec
  rw [h]
  simp only [ne_eq, not_true_eq_false, if_false]
  rw [h2]
  simp only [ne_eq, not_true_eq_false, if_false]
  rw [if_pos h3]
theorem dec_is {v r r2 l : List UInt8} {n p : List UInt8} {a : List Nat} (h : Q.taketext v 20 = (0, n, r)) (h2 : Q.taketext r 20 = (0, p, r2)) (h3 : nums 4 [] r2 = (0, a, l)) : dec v = made n p a l := by
  unfold dec
  rw [h]
  simp only [ne_eq, not_true_eq_false, if_false]
  rw [h2]
  simp only [ne_eq, not_true_eq_false, if_false]
  rw [h3]
  simp only [ne_eq, not_true_eq_false, if_false]
theorem nums_ub {n : Int} (hm : Q.may n) (k : Nat) (a : List Nat) (more : List UInt8) : nums (k + 1) a (Q.ub n ++ more) = nums k (a ++ [n.toNat]) more := by
  have h1 := Q.take_ub hm more
  have h2 := Q.rest_ub hm more
  show (if (Q.take (Q.ub n ++ more)).1 ≠ 0 then _ else _) = _
  rw [h1, h2]
  simp
theorem word_len {s : List UInt8} (h : word s) : 1 ≤ s.length ∧ s.length ≤ 20 := ⟨h.1, h.2.1⟩
theorem may_short {n : Int} (h : short n) : Q.may n := ⟨h.1, by have := h.2; omega⟩
theorem bit_may (b : Bool) : Q.may (bit b) := by cases b <;> exact ⟨by decide, by decide⟩
/-- what is encoded is decoded as it was -/
theorem dec_val {x : Svc} (h : right x) : dec (val x) = (x, 0) := by
  obtain ⟨h1, h2, h3, h4, h5, h6⟩ := h
  have l1 := word_len h1
  have l2 := word_len h2
  have e : val x = Q.txt (strB x.name) ++ (Q.txt (strB x.proto) ++ (Q.ub x.port ++ (Q.ub x.prio ++ (Q.ub x.wt ++ (Q.ub (bit x.well) ++ []))))) := by
    unfold val
    simp only [List.append_assoc, List.append_nil]
  have t1 := Q.taketext_strB x.name 20 (by omega) (by omega) (Q.txt (strB x.proto) ++ (Q.ub x.port ++ (Q.ub x.prio ++ (Q.ub x.wt ++ (Q.ub (bit x.well) ++ [])))))
  have t2 := Q.taketext_strB x.proto 20 (by omega) (by omega) (Q.ub x.port ++ (Q.ub x.prio ++ (Q.ub x.wt ++ (Q.ub (bit x.well) ++ []))))
  have t3 : nums 4 [] (Q.ub x.port ++ (Q.ub x.prio ++ (Q.ub x.wt ++ (Q.ub (bit x.well) ++ [])))) = (0, [x.port.toNat, x.prio.toNat, x.wt.toNat, (bit x.well).toNat], []) := by
    rw [nums_ub (may_short h4), nums_ub (may_short h5), nums_ub (may_short h6), nums_ub (bit_may _)]
    rfl
  rw [e, dec_is t1 t2 t3]
  have s1 : ((x.port.toNat : Nat) : Int) = x.port := by have := h4.1; omega
  have s2 : ((x.prio.toNat : Nat) : Int) = x.prio := by have := h5.1; omega
  have s3 : ((x.wt.toNat : Nat) : Int) = x.wt := by have := h6.1; omega
  have s4 : decide ((bit x.well).toNat = 1) = x.well := by cases x.well <;> rfl
  have s5 : (bit x.well).toNat ≤ 1 := by cases x.well <;> decide
  have ex : (⟨x.name, x.proto, x.port, x.prio, x.wt, x.well⟩ : Svc) = x := rfl
  show (if [] = [] ∧ (bit x.well).toNat ≤ 1 ∧ right ⟨x.name, x.proto, (x.port.toNat : Nat), (x.prio.toNat : Nat), (x.wt.toNat : Nat), decide ((bit x.well).toNat = 1)⟩ then (⟨x.name, x.proto, (x.port.toNat : Nat), (x.prio.toNat : Nat), (x.wt.toNat : Nat), decide ((bit x.well).toNat = 1)⟩, 0) else (none, 3)) = _
  rw [s1, s2, s3, s4, ex, if_pos ⟨rfl, s5, h1, h2, h3, h4, h5, h6⟩]
theorem dec_enc {x : Svc} (h : right x) : enc x = (val x, 0) := if_pos h
/-- what a taken text was -/
theorem taketext_once {l t r : List UInt8} {most : Int} (h : Q.taketext l most = (0, t, r)) : Q.txt (strB t) ++ r = l ∧ (t.length : Int) ≤ most := by
  unfold Q.taketext at h
  split at h
  · rename_i h0; injection h with h1 _; exact absurd h1 h0
  · rename_i h0
    split at h
    · injection h with h1 _; cases h1
    · rename_i hm
      split at h
      · injection h with h1 _; cases h1
      · rename_i hl
        simp only [Prod.mk.injEq, true_and] at h
        obtain ⟨rfl, rfl⟩ := h
        have h0' : (Q.take l).1 = 0 := by simpa using h0
        rcases hq : Q.take l with ⟨e, N, k⟩
        rw [hq] at h0' hm hl
        simp only at h0' hm hl ⊢
        subst h0'
        obtain ⟨m1, m2, m3, m4, m5, m6⟩ := Q.take_once hq
        have hr : Q.rest l = l.drop k := by unfold Q.rest; rw [hq]; rfl
        rw [hr] at hl ⊢
        have hlen : ((l.drop k).take N).length = N := by rw [List.length_take]; omega
        refine ⟨?_, by rw [hlen]; omega⟩
        have hsz : (strB ((l.drop k).take N)).size = N := by rw [strB_size, hlen]
        unfold Q.txt
        rw [hsz, m6]
        show l.take k ++ (l.drop k).take N ++ (l.drop k).drop N = l
        rw [List.append_assoc, List.take_append_drop, List.take_append_drop]
theorem nums_once : ∀ (k : Nat) (a : List Nat) (l : List UInt8) (b : List Nat) (r : List UInt8), nums k a l = (0, b, r) → ∃ c : List Nat, b = a ++ c ∧ c.length = k ∧ (c.flatMap fun n : Nat => Q.ub (n : Int)) ++ r = l
  | 0, a, l, b, r, h => by
    obtain ⟨rfl, rfl⟩ : a = b ∧ l = r := by simpa [nums] using h
    exact ⟨[], by simp, rfl, rfl⟩
  | k + 1, a, l, b, r, h => by
    unfold nums at h
    split at h
    · rename_i h0; injection h with h1 _; exact absurd h1 h0
    · rename_i h0
      have h0' : (Q.take l).1 = 0 := by simpa using h0
      obtain ⟨c, h1, h2, h3⟩ := nums_once k _ _ _ _ h
      rcases hq : Q.take l with ⟨e, N, j⟩
      rw [hq] at h0' h1
      simp only at h0' h1
      subst h0'
      obtain ⟨m1, m2, m3, m4, m5, m6⟩ := Q.take_once hq
      have hr : Q.rest l = l.drop j := by unfold Q.rest; rw [hq]; rfl
      refine ⟨N :: c, by rw [h1]; simp, by simp [h2], ?_⟩
      rw [List.flatMap_cons, List.append_assoc, h3, hr, m6, List.take_append_drop]
/-- what is decoded has just that value -/
theorem dec_once {v : List UInt8} (h : (dec v).2 = 0) : right (dec v).1 ∧ val (dec v).1 = v := by
  by_cases e1 : (Q.taketext v 20).1 = 0
  · rcases h1 : Q.taketext v 20 with ⟨z1, n, r⟩
    rw [h1] at e1
    simp only at e1
    subst e1
    by_cases e2 : (Q.taketext r 20).1 = 0
    · rcases h2 : Q.taketext r 20 with ⟨z2, p, r2⟩
      rw [h2] at e2
      simp only at e2
      subst e2
      by_cases e3 : (nums 4 [] r2).1 = 0
      · rcases h3 : nums 4 [] r2 with ⟨z3, a, l⟩
        rw [h3] at e3
        simp only at e3
        subst e3
        rw [dec_is h1 h2 h3] at h ⊢
        unfold made at h ⊢
        split
        · rename_i hc
          obtain ⟨rfl, hb, hr⟩ := hc
          refine ⟨hr, ?_⟩
          obtain ⟨c, hc1, hc2, hc3⟩ := nums_once _ _ _ _ _ h3
          rw [List.nil_append] at hc1
          subst hc1
          match a, hc2, hb, hc3, hr with
          | [x0, x1, x2, x3], _, hb, hc3, hr =>
            have g1 := (taketext_once h1).1
            have g2 := (taketext_once h2).1
            have hx3 : bit (decide (x3 = 1)) = (x3 : Int) := by
              have : x3 ≤ 1 := hb
              unfold bit
              by_cases e : x3 = 1
              · subst e; rfl
              · obtain rfl : x3 = 0 := by omega
                rfl
            unfold val
            show Q.txt (strB n) ++ Q.txt (strB p) ++ Q.ub (x0 : Int) ++ Q.ub (x1 : Int) ++ Q.ub (x2 : Int) ++ Q.ub (bit (decide (x3 = 1))) = v
            rw [hx3, ← g1, ← g2, ← hc3]
            simp only [List.flatMap_cons, List.flatMap_nil, List.append_assoc, List.append_nil]
        · rename_i hc
          rw [if_neg hc] at h
          cases h
      · rw [dec_e3 h1 h2 e3] at h
        exact absurd h (by simpa using e3)
    · rw [dec_e2 h1 e2] at h
      exact absurd h (by simpa using e2)
  · rw [dec_e1 e1] at h
    exact absurd h (by simpa using e1)
theorem made_err {n p : List UInt8} {a : List Nat} {l : List UInt8} (h : (made n p a l).2 ≠ 0) : (made n p a l).1 = none := by
  unfold made at h ⊢
  split
  · rename_i hc; rw [if_pos hc] at h; exact absurd rfl h
  · rfl
theorem dec_err {v : List UInt8} (h : (dec v).2 ≠ 0) : (dec v).1 = none := by
  unfold dec at h ⊢
  split
  · rfl
  · rename_i h1
    rw [if_neg h1] at h
    split
    · rfl
    · rename_i h2
      rw [if_neg h2] at h
      split
      · rfl
      · rename_i h3
        rw [if_neg h3] at h
        exact made_err h
theorem size_short {n : Int} (h : short n) : Q.size n ≤ 3 := by
  have e := Q.size_mono (a := n) (b := 65535) (may_short h) ⟨by omega, by omega⟩ h.2
  have e2 : Q.size 65535 = 3 := by decide
  omega
theorem val_len {x : Svc} (h : right x) : (val x).length ≤ 60 := by
  obtain ⟨h1, h2, h3, h4, h5, h6⟩ := h
  have l1 := word_len h1
  have l2 := word_len h2
  have a := size_short h4
  have b := size_short h5
  have c := size_short h6
  have d : Q.size (bit x.well) ≤ 1 := by cases x.well <;> decide
  have e1 := Q.size_mono (a := (x.name.length : Int)) (b := 20) ⟨by omega, by omega⟩ ⟨by omega, by omega⟩ (by omega)
  have e2 := Q.size_mono (a := (x.proto.length : Int)) (b := 20) ⟨by omega, by omega⟩ ⟨by omega, by omega⟩ (by omega)
  have e3 : Q.size 20 = 1 := by decide
  unfold val
  simp only [List.length_append, Q.length_ub, Q.length_txt, strB_size]
  omega
end Y
end Go.Proofs.Ytfgpncbcelafoaa
