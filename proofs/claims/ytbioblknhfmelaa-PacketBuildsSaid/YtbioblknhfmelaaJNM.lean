/- ZNum ZName ZNmL ZRdr (merged). -/
import Derived.Deep.DeepCutAuto
import Derived.Test.YtbioblknhfmelaaJZRef2
namespace Go.Proofs.Ytbioblknhfmelaa
set_option linter.unusedVariables false
set_option linter.unusedSimpArgs false
open Go.RowKit
namespace Pk
def be (l : List UInt8) : Nat := l.foldl (fun a x => a * 256 + x.toNat) 0
theorem be_more {l : List UInt8} {k : Nat} {x : UInt8} (h : l[k]? = some x) : be (l.take (k + 1)) = be (l.take k) * 256 + x.toNat := by rw [take_more h]; unfold be; rw [List.foldl_append]; rfl
theorem be_lt : ∀ (l : List UInt8) (k : Nat), k ≤ l.length → be (l.take k) < 256 ^ k
  | l, 0, _ => by simp [be]
  | l, k + 1, h => by
    obtain ⟨x, hx⟩ : ∃ x, l[k]? = some x := ⟨_, List.getElem?_eq_getElem (by omega)⟩
    have h1 := be_lt l k (by omega)
    have h2 := x.toNat_lt
    rw [be_more hx, Nat.pow_succ]
    omega
theorem be_w2 {l : List UInt8} (h : 2 ≤ l.length) : be (l.take 2) = w2 l := by
  match l, h with
  | x :: y :: r, _ => show (0 * 256 + x.toNat) * 256 + y.toNat = x.toNat * 256 + y.toNat; omega
theorem be_w4 {l : List UInt8} (h : 4 ≤ l.length) : be (l.take 4) = w4 l := by
  match l, h with
  | x :: y :: z :: u :: r, _ => show (((0 * 256 + x.toNat) * 256 + y.toNat) * 256 + z.toNat) * 256 + u.toNat = ((x.toNat * 256 + y.toNat) * 256 + z.toNat) * 256 + u.toNat; omega
theorem be_small {l : List UInt8} {j : Nat} (h : j ≤ l.length) (hj : j ≤ 3) : be (l.take j) ≤ 16777215 := by
  have h1 := be_lt l j h
  have : j = 0 ∨ j = 1 ∨ j = 2 ∨ j = 3 := by omega
  rcases this with rfl | rfl | rfl | rfl <;> omega
end Pk
end Go.Proofs.Ytbioblknhfmelaa

namespace Go.Proofs.Ytbioblknhfmelaa
set_option linter.unusedVariables false
set_option linter.unusedSimpArgs false
open Go.RowKit
namespace Pk
section
variable {f : Nat} {b out r : List UInt8} {i st j : Nat} {nx : Option Nat} {c d : UInt8}
theorem nf_end (h : b.drop i = []) : nameF (f + 1) b out i st nx j = ([], 0, 2) := by unfold nameF; rw [h]
theorem nf_zero (h : b.drop i = c :: r) (h0 : c.toNat = 0) : nameF (f + 1) b out i st nx j = (out ++ [0], nx.getD (i + 1), 0) := by
  have : c = 0 := UInt8.toNat_inj.1 (by simpa using h0)
  unfold nameF; rw [h]; simp only; rw [if_pos this]
theorem nf_short (h : b.drop i = c :: r) (h0 : c.toNat ≠ 0) (h1 : c.toNat < 64) (h2 : r.length < c.toNat) : nameF (f + 1) b out i st nx j = ([], 0, 2) := by
  have : c ≠ 0 := fun e => h0 (by rw [e]; rfl)
  unfold nameF; rw [h]; simp only; rw [if_neg this, if_pos h1, if_pos h2]
theorem nf_long (h : b.drop i = c :: r) (h0 : c.toNat ≠ 0) (h1 : c.toNat < 64) (h2 : ¬ r.length < c.toNat) (h3 : 254 < (out ++ c :: r.take c.toNat).length) : nameF (f + 1) b out i st nx j = ([], 0, 4) := by
  have : c ≠ 0 := fun e => h0 (by rw [e]; rfl)
  unfold nameF; rw [h]; simp only; rw [if_neg this, if_pos h1, if_neg h2, if_pos h3]
theorem nf_label (h : b.drop i = c :: r) (h0 : c.toNat ≠ 0) (h1 : c.toNat < 64) (h2 : ¬ r.length < c.toNat) (h3 : ¬ 254 < (out ++ c :: r.take c.toNat).length) : nameF (f + 1) b out i st nx j = nameF f b (out ++ c :: r.take c.toNat) (i + 1 + c.toNat) st nx j := by
  have : c ≠ 0 := fun e => h0 (by rw [e]; rfl)
  conv => lhs; unfold nameF
  rw [h]; simp only; rw [if_neg this, if_pos h1, if_neg h2, if_neg h3]
theorem nf_form (h : b.drop i = c :: r) (h1 : ¬ c.toNat < 64) (h2 : c.toNat < 192) : nameF (f + 1) b out i st nx j = ([], 0, 3) := by
  have : c ≠ 0 := fun e => h1 (by rw [e]; decide)
  unfold nameF; rw [h]; simp only; rw [if_neg this, if_neg h1, if_pos h2]
theorem nf_cut (h : b.drop i = [c]) (h2 : ¬ c.toNat < 192) : nameF (f + 1) b out i st nx j = ([], 0, 2) := by
  have : c ≠ 0 := fun e => h2 (by rw [e]; decide)
  unfold nameF; rw [h]; simp only; rw [if_neg this, if_neg (by omega), if_neg h2]
theorem nf_loop (h : b.drop i = c :: d :: r) (h2 : ¬ c.toNat < 192) (h3 : st ≤ (c.toNat - 192) * 256 + d.toNat ∨ 16 ≤ j) : nameF (f + 1) b out i st nx j = ([], 0, 15) := by
  have : c ≠ 0 := fun e => h2 (by rw [e]; decide)
  unfold nameF; rw [h]; simp only; rw [if_neg this, if_neg (by omega), if_neg h2, if_pos h3]
theorem nf_jump (h : b.drop i = c :: d :: r) (h2 : ¬ c.toNat < 192) (h3 : ¬ (st ≤ (c.toNat - 192) * 256 + d.toNat ∨ 16 ≤ j)) : nameF (f + 1) b out i st nx j = nameF f b out ((c.toNat - 192) * 256 + d.toNat) ((c.toNat - 192) * 256 + d.toNat) (some (nx.getD (i + 2))) (j + 1) := by
  have : c ≠ 0 := fun e => h2 (by rw [e]; decide)
  conv => lhs; unfold nameF
  rw [h]; simp only; rw [if_neg this, if_neg (by omega), if_neg h2, if_neg h3]
end
end Pk
/-- a name, where it ends, an error -/
def NmR (z : List UInt8 × Nat × Int) (w : World) (e : Ending) (w' : World) : Prop := e = .returned (.tuple #[.string (strB z.1), .int .i64 (z.2.1 : Nat), .int .i64 z.2.2]) ∧ Below w.heap.size w w'
end Go.Proofs.Ytbioblknhfmelaa

namespace Go.Proofs.Ytbioblknhfmelaa
set_option linter.unusedVariables false
set_option linter.unusedSimpArgs false
open Go.RowKit
namespace Pk
theorem nameF_le : ∀ (f : Nat) (b out : List UInt8) (i st : Nat) (nx : Option Nat) (j : Nat), (∀ k, nx = some k → k ≤ b.length) → (nameF f b out i st nx j).2.1 ≤ b.length
  | 0, _, _, _, _, _, _, _ => Nat.zero_le _
  | f + 1, b, out, i, st, nx, j, h => by
    have hd : ∀ c r, b.drop i = c :: r → i + 1 + r.length ≤ b.length := fun c r e => by
      have := congrArg List.length e
      rw [List.length_drop, List.length_cons] at this
      omega
    cases e : b.drop i with
    | nil => rw [nf_end e]; exact Nat.zero_le _
    | cons c r =>
      have h1 := hd c r e
      by_cases h0 : c.toNat = 0
      · rw [nf_zero e h0]
        cases nx with
        | none => show i + 1 ≤ _; omega
        | some k => exact h k rfl
      by_cases h64 : c.toNat < 64
      · by_cases hs : r.length < c.toNat
        · rw [nf_short e h0 h64 hs]; exact Nat.zero_le _
        · by_cases hl : 254 < (out ++ c :: r.take c.toNat).length
          · rw [nf_long e h0 h64 hs hl]; exact Nat.zero_le _
          · rw [nf_label e h0 h64 hs hl]; exact nameF_le f b _ _ _ _ _ h
      by_cases h192 : c.toNat < 192
      · rw [nf_form e h64 h192]; exact Nat.zero_le _
      match r, e with
      | [], e => rw [nf_cut e h192]; exact Nat.zero_le _
      | d :: r', e =>
        by_cases hl : st ≤ (c.toNat - 192) * 256 + d.toNat ∨ 16 ≤ j
        · rw [nf_loop e h192 hl]; exact Nat.zero_le _
        · rw [nf_jump e h192 hl]
          refine nameF_le f b _ _ _ _ _ fun k hk => ?_
          have h2 := hd c (d :: r') e
          rw [List.length_cons] at h2
          injection hk with hk
          cases nx with
          | none => have : i + 2 = k := hk; omega
          | some q => have : q = k := hk; have := h q rfl; omega
theorem nameAt_le (b : List UInt8) (i : Int) : (nameAt b i).2.1 ≤ b.length := by
  unfold nameAt
  split
  · exact Nat.zero_le _
  · exact nameF_le _ _ _ _ _ _ _ fun k hk => by cases hk
theorem nameF_len : ∀ (f : Nat) (b out : List UInt8) (i st : Nat) (nx : Option Nat) (j : Nat), out.length ≤ 254 → (nameF f b out i st nx j).1.length ≤ 255
  | 0, _, _, _, _, _, _, _ => Nat.zero_le _
  | f + 1, b, out, i, st, nx, j, h => by
    cases e : b.drop i with
    | nil => rw [nf_end e]; exact Nat.zero_le _
    | cons c r =>
      by_cases h0 : c.toNat = 0
      · rw [nf_zero e h0]
        show (out ++ [0]).length ≤ 255
        rw [List.length_append]; simp; omega
      by_cases h64 : c.toNat < 64
      · by_cases hs : r.length < c.toNat
        · rw [nf_short e h0 h64 hs]; exact Nat.zero_le _
        · by_cases hl : 254 < (out ++ c :: r.take c.toNat).length
          · rw [nf_long e h0 h64 hs hl]; exact Nat.zero_le _
          · rw [nf_label e h0 h64 hs hl]; exact nameF_len f b _ _ _ _ _ (by omega)
      by_cases h192 : c.toNat < 192
      · rw [nf_form e h64 h192]; exact Nat.zero_le _
      match r, e with
      | [], e => rw [nf_cut e h192]; exact Nat.zero_le _
      | d :: r', e =>
        by_cases hl : st ≤ (c.toNat - 192) * 256 + d.toNat ∨ 16 ≤ j
        · rw [nf_loop e h192 hl]; exact Nat.zero_le _
        · rw [nf_jump e h192 hl]; exact nameF_len f b _ _ _ _ _ h
theorem nameAt_len (b : List UInt8) (i : Int) : (nameAt b i).1.length ≤ 255 := by
  unfold nameAt
  split
  · exact Nat.zero_le _
  · exact nameF_len _ _ _ _ _ _ _ (by simp)
end Pk
end Go.Proofs.Ytbioblknhfmelaa

namespace Go.Proofs.Ytbioblknhfmelaa
set_option linter.unusedVariables false
set_option linter.unusedSimpArgs false
namespace Pk
def takeS (b : List UInt8) (s : Nat) (σ : Nat × Int) : List UInt8 × Nat × Int := if σ.2 ≠ 0 then ([], σ) else if b.length < σ.1 + s then ([], (σ.1, 2)) else ((b.drop σ.1).take s, (σ.1 + s, 0))
def numS (b : List UInt8) (s : Nat) (σ : Nat × Int) : Nat × Nat × Int := (be (takeS b s σ).1, (takeS b s σ).2)
def nameS (b : List UInt8) (σ : Nat × Int) : List UInt8 × Nat × Int := if σ.2 ≠ 0 then ([], σ) else nameAt b (σ.1 : Int)
def qst2 (b s : List UInt8) (σ : Nat × Int) : Qst × Nat × Int := (⟨s, ((numS b 2 σ).1 : Nat), ((numS b 2 (numS b 2 σ).2).1 : Nat)⟩, (numS b 2 (numS b 2 σ).2).2)
def qstS (b : List UInt8) (σ : Nat × Int) : Qst × Nat × Int := qst2 b (nameS b σ).1 (nameS b σ).2
def rec5 (b s : List UInt8) (t c l : Nat) (σ : Nat × Int) : Rrc × Nat × Int := (⟨s, (t : Nat), (c : Nat), (l : Nat), (takeS b (numS b 2 σ).1 (numS b 2 σ).2).1⟩, (takeS b (numS b 2 σ).1 (numS b 2 σ).2).2)
def rec2 (b s : List UInt8) (σ : Nat × Int) : Rrc × Nat × Int := rec5 b s (numS b 2 σ).1 (numS b 2 (numS b 2 σ).2).1 (numS b 4 (numS b 2 (numS b 2 σ).2).2).1 (numS b 4 (numS b 2 (numS b 2 σ).2).2).2
def recS (b : List UInt8) (σ : Nat × Int) : Rrc × Nat × Int := rec2 b (nameS b σ).1 (nameS b σ).2
def sevS {α : Type} (one : Nat × Int → α × Nat × Int) : Nat → Nat × Int → List α × Nat × Int
  | 0, σ => ([], σ)
  | m + 1, σ => if (one σ).2.2 ≠ 0 then ([], (one σ).2) else ((one σ).1 :: (sevS one m (one σ).2).1, (sevS one m (one σ).2).2)
def pack4 (b : List UInt8) (i f q n1 n2 n3 : Nat) (σ : Nat × Int) : Pck × Nat × Int :=
  let qs := sevS (qstS b) q σ
  let an := sevS (recS b) n1 qs.2
  let au := sevS (recS b) n2 an.2
  let mo := sevS (recS b) n3 au.2
  (⟨(i : Nat), (f : Nat), qs.1, an.1, au.1, mo.1⟩, mo.2)
def packS (b : List UInt8) (σ : Nat × Int) : Pck × Nat × Int :=
  let i := numS b 2 σ
  let f := numS b 2 i.2
  let q := numS b 2 f.2
  let n1 := numS b 2 q.2
  let n2 := numS b 2 n1.2
  let n3 := numS b 2 n2.2
  pack4 b i.1 f.1 q.1 n1.1 n2.1 n3.1 n3.2
def readS (b : List UInt8) : Pck × Int := if 65535 < b.length then (none, 4) else if (packS b (0, 0)).2.2 ≠ 0 then (none, (packS b (0, 0)).2.2) else if (packS b (0, 0)).2.1 < b.length then (none, 3) else if ¬ right (packS b (0, 0)).1 then (none, 1) else ((packS b (0, 0)).1, 0)
section
variable {b : List UInt8} {k s : Nat} {e : Int}
theorem take_dead (h : e ≠ 0) : takeS b s (k, e) = ([], (k, e)) := if_pos h
theorem take_short (h : b.length < k + s) : takeS b s (k, 0) = ([], (k, 2)) := by unfold takeS; rw [if_neg (by simp), if_pos h]
theorem take_live (h : ¬ b.length < k + s) : takeS b s (k, 0) = ((b.drop k).take s, (k + s, 0)) := by unfold takeS; rw [if_neg (by simp), if_neg h]
theorem num_dead (h : e ≠ 0) : numS b s (k, e) = (0, (k, e)) := by unfold numS; rw [take_dead h]; rfl
theorem num_short (h : b.length < k + s) : numS b s (k, 0) = (0, (k, 2)) := by unfold numS; rw [take_short h]; rfl
theorem num_two (h : ¬ b.length < k + 2) : numS b 2 (k, 0) = (w2 (b.drop k), (k + 2, 0)) := by
  unfold numS; rw [take_live h]
  show (be ((b.drop k).take 2), _) = _
  rw [be_w2 (by rw [List.length_drop]; omega)]
theorem num_four (h : ¬ b.length < k + 4) : numS b 4 (k, 0) = (w4 (b.drop k), (k + 4, 0)) := by
  unfold numS; rw [take_live h]
  show (be ((b.drop k).take 4), _) = _
  rw [be_w4 (by rw [List.length_drop]; omega)]
theorem name_dead (h : e ≠ 0) : nameS b (k, e) = ([], (k, e)) := if_pos h
theorem name_live : nameS b (k, 0) = nameAt b (k : Int) := if_neg (by simp)
theorem qst2_dead {t : List UInt8} (h : e ≠ 0) : (qst2 b t (k, e)).2 = (k, e) := by unfold qst2; rw [num_dead h]; simp only; rw [num_dead h]
theorem rec5_dead {t : List UInt8} {x y z : Nat} (h : e ≠ 0) : (rec5 b t x y z (k, e)).2 = (k, e) := by unfold rec5; rw [num_dead h]; simp only; rw [take_dead h]
theorem rec2_dead {t : List UInt8} (h : e ≠ 0) : (rec2 b t (k, e)).2 = (k, e) := by
  unfold rec2
  rw [num_dead h]; simp only; rw [num_dead h]; simp only; rw [num_dead h]
  exact rec5_dead h
theorem qst_dead (h : e ≠ 0) : (qstS b (k, e)).2 = (k, e) := by unfold qstS; rw [name_dead h]; exact qst2_dead h
theorem rec_dead (h : e ≠ 0) : (recS b (k, e)).2 = (k, e) := by unfold recS; rw [name_dead h]; exact rec2_dead h
theorem sev_dead {α : Type} {one : Nat × Int → α × Nat × Int} (ho : ∀ k e, e ≠ 0 → (one (k, e)).2 = (k, e)) (h : e ≠ 0) : ∀ m, (sevS one m (k, e)).2 = (k, e)
  | 0 => rfl
  | m + 1 => by
    show (if (one (k, e)).2.2 ≠ 0 then _ else _ : List α × Nat × Int).2 = _
    rw [ho k e h, if_pos h]
theorem sev_err {α : Type} {one : Nat × Int → α × Nat × Int} {σ : Nat × Int} {m : Nat} (h : (one σ).2.2 ≠ 0) : sevS one (m + 1) σ = ([], (one σ).2) := if_pos h
theorem sev_more {α : Type} {one : Nat × Int → α × Nat × Int} {σ : Nat × Int} {m : Nat} (h : (one σ).2.2 = 0) : sevS one (m + 1) σ = ((one σ).1 :: (sevS one m (one σ).2).1, (sevS one m (one σ).2).2) := if_neg (by simp [h])
theorem sev_mem {α : Type} {one : Nat × Int → α × Nat × Int} : ∀ (m : Nat) (σ : Nat × Int), ∀ x ∈ (sevS one m σ).1, ∃ τ, x = (one τ).1
  | 0, _, _, h => by cases h
  | m + 1, σ, x, h => by
    by_cases h1 : (one σ).2.2 = 0
    · rw [sev_more h1] at h
      rcases List.mem_cons.1 h with h | h
      · exact ⟨σ, h⟩
      · exact sev_mem m _ x h
    · rw [sev_err h1] at h; cases h
theorem nameS_len (σ : Nat × Int) : (nameS b σ).1.length ≤ 255 := by
  unfold nameS
  split
  · exact Nat.zero_le _
  · exact nameAt_len _ _
theorem takeS_len (s : Nat) (σ : Nat × Int) : (takeS b s σ).1.length ≤ b.length := by
  unfold takeS
  split
  · exact Nat.zero_le _
  · split
    · exact Nat.zero_le _
    · rw [List.length_take, List.length_drop]; omega
theorem qstS_name (σ : Nat × Int) : (qstS b σ).1.name.length ≤ 255 := nameS_len σ
theorem recS_name (σ : Nat × Int) : (recS b σ).1.name.length ≤ 255 := nameS_len σ
theorem recS_data (σ : Nat × Int) : (recS b σ).1.data.length ≤ b.length := takeS_len _ _
theorem qst2_is {t : List UInt8} : (b.length < k + 4 → (qst2 b t (k, 0)).2.2 = 2) ∧ (¬ b.length < k + 4 → qst2 b t (k, 0) = (⟨t, (w2 (b.drop k) : Nat), (w2 (b.drop (k + 2)) : Nat)⟩, (k + 4, 0))) := by
  refine ⟨fun h => ?_, fun h => ?_⟩
  · unfold qst2
    by_cases h1 : b.length < k + 2
    · rw [num_short h1]; simp only; rw [num_dead (by decide)]
    · rw [num_two h1]; simp only; rw [num_short (by omega)]
  · unfold qst2
    rw [num_two (by omega)]; simp only; rw [num_two (by omega)]
theorem rec2_is {t : List UInt8} : (b.length < k + 10 → (rec2 b t (k, 0)).2.2 = 2) ∧ (¬ b.length < k + 10 → b.length < k + 10 + w2 (b.drop (k + 8)) → (rec2 b t (k, 0)).2.2 = 2) ∧ (¬ b.length < k + 10 → ¬ b.length < k + 10 + w2 (b.drop (k + 8)) → rec2 b t (k, 0) = (recAt b t k, (k + 10 + w2 (b.drop (k + 8)), 0))) := by
  refine ⟨fun h => ?_, fun h h2 => ?_, fun h h2 => ?_⟩
  · unfold rec2
    by_cases h1 : b.length < k + 2
    · rw [num_short h1]; simp only; rw [num_dead (by decide)]; simp only; rw [num_dead (by decide)]; simp only; rw [rec5_dead (by decide)]
    rw [num_two h1]; simp only
    by_cases h2 : b.length < k + 2 + 2
    · rw [num_short h2]; simp only; rw [num_dead (by decide)]; simp only; rw [rec5_dead (by decide)]
    rw [num_two h2]; simp only
    by_cases h3 : b.length < k + 2 + 2 + 4
    · rw [num_short h3]; simp only; rw [rec5_dead (by decide)]
    rw [num_four h3]; simp only
    unfold rec5
    rw [num_short (by omega)]; simp only; rw [take_dead (by decide)]
  · unfold rec2
    rw [num_two (by omega)]; simp only
    rw [num_two (by omega)]; simp only
    rw [num_four (by omega)]; simp only
    unfold rec5
    rw [num_two (by omega)]; simp only
    rw [show k + 2 + 2 + 4 = k + 8 by omega, take_short (by omega)]
  · unfold rec2
    rw [num_two (by omega)]; simp only
    rw [num_two (by omega)]; simp only
    rw [num_four (by omega)]; simp only
    unfold rec5
    rw [num_two (by omega)]; simp only
    rw [show k + 2 + 2 + 4 = k + 8 by omega, show k + 2 + 2 = k + 4 by omega, take_live (by omega)]
    unfold recAt
    rw [show k + 8 + 2 = k + 10 by omega]
end
theorem sev_qs (b : List UInt8) : ∀ (n k : Nat), k ≤ b.length → ((qsF n b k).2.2 = 0 → sevS (qstS b) n (k, 0) = ((qsF n b k).1, ((qsF n b k).2.1, 0)) ∧ (qsF n b k).2.1 ≤ b.length) ∧ ((qsF n b k).2.2 ≠ 0 → (sevS (qstS b) n (k, 0)).2.2 = (qsF n b k).2.2)
  | 0, k, hk => ⟨fun _ => ⟨rfl, hk⟩, fun h => absurd rfl h⟩
  | n + 1, k, hk => by
    have hle := nameAt_le b (k : Int)
    obtain ⟨⟨s, nx, e⟩, hz⟩ : ∃ z, nameAt b (k : Int) = z := ⟨_, rfl⟩
    rw [hz] at hle
    have hq : qstS b (k, 0) = qst2 b s (nx, e) := by unfold qstS; rw [name_live, hz]
    unfold qsF
    rw [hz]
    simp only at hle ⊢
    by_cases he : e = 0
    · subst he
      simp only [ne_eq, not_true_eq_false, if_false]
      by_cases h4 : b.length < nx + 4
      · rw [if_pos h4]
        have h5 := (qst2_is (b := b) (k := nx) (t := s)).1 h4
        rw [← hq] at h5
        refine ⟨fun h => absurd h (by decide), fun _ => ?_⟩
        rw [sev_err (by rw [h5]; decide)]
        exact h5
      · rw [if_neg h4]
        have h5 := (qst2_is (b := b) (k := nx) (t := s)).2 h4
        rw [← hq] at h5
        have ih := sev_qs b n (nx + 4) (by omega)
        rw [sev_more (by rw [h5]), h5]
        simp only
        by_cases hr : (qsF n b (nx + 4)).2.2 = 0
        · rw [if_neg (by simp [hr])]
          obtain ⟨h6, h7⟩ := ih.1 hr
          exact ⟨fun _ => ⟨by rw [h6], h7⟩, fun h => absurd rfl h⟩
        · rw [if_pos hr]
          exact ⟨fun h => absurd h hr, fun _ => ih.2 hr⟩
    · rw [if_pos he]
      have h5 : (qstS b (k, 0)).2 = (nx, e) := by rw [hq]; exact qst2_dead he
      refine ⟨fun h => absurd h he, fun _ => ?_⟩
      rw [sev_err (by rw [h5]; exact he), h5]
theorem sev_rs (b : List UInt8) : ∀ (n k : Nat), k ≤ b.length → ((rsF n b k).2.2 = 0 → sevS (recS b) n (k, 0) = ((rsF n b k).1, ((rsF n b k).2.1, 0)) ∧ (rsF n b k).2.1 ≤ b.length) ∧ ((rsF n b k).2.2 ≠ 0 → (sevS (recS b) n (k, 0)).2.2 = (rsF n b k).2.2)
  | 0, k, hk => ⟨fun _ => ⟨rfl, hk⟩, fun h => absurd rfl h⟩
  | n + 1, k, hk => by
    have hle := nameAt_le b (k : Int)
    obtain ⟨⟨s, nx, e⟩, hz⟩ : ∃ z, nameAt b (k : Int) = z := ⟨_, rfl⟩
    rw [hz] at hle
    have hq : recS b (k, 0) = rec2 b s (nx, e) := by unfold recS; rw [name_live, hz]
    unfold rsF
    rw [hz]
    simp only at hle ⊢
    by_cases he : e = 0
    · subst he
      simp only [ne_eq, not_true_eq_false, if_false]
      obtain ⟨r1, r2, r3⟩ := rec2_is (b := b) (k := nx) (t := s)
      rw [← hq] at r1 r2 r3
      by_cases h4 : b.length < nx + 10
      · rw [if_pos h4]
        refine ⟨fun h => absurd h (by decide), fun _ => ?_⟩
        rw [sev_err (by rw [r1 h4]; decide)]
        exact r1 h4
      rw [if_neg h4]
      by_cases h6 : b.length < nx + 10 + w2 (b.drop (nx + 8))
      · rw [if_pos h6]
        refine ⟨fun h => absurd h (by decide), fun _ => ?_⟩
        rw [sev_err (by rw [r2 h4 h6]; decide)]
        exact r2 h4 h6
      · rw [if_neg h6]
        have h5 := r3 h4 h6
        have ih := sev_rs b n (nx + 10 + w2 (b.drop (nx + 8))) (by omega)
        rw [sev_more (by rw [h5]), h5]
        simp only
        by_cases hr : (rsF n b (nx + 10 + w2 (b.drop (nx + 8)))).2.2 = 0
        · rw [if_neg (by simp [hr])]
          obtain ⟨h6, h7⟩ := ih.1 hr
          exact ⟨fun _ => ⟨by rw [h6], h7⟩, fun h => absurd rfl h⟩
        · rw [if_pos hr]
          exact ⟨fun h => absurd h hr, fun _ => ih.2 hr⟩
    · rw [if_pos he]
      have h5 : (recS b (k, 0)).2 = (nx, e) := by rw [hq]; exact rec2_dead he
      refine ⟨fun h => absurd h he, fun _ => ?_⟩
      rw [sev_err (by rw [h5]; exact he), h5]
theorem pack_mod (b : List UInt8) (σ : Nat × Int) : (∀ q ∈ (packS b σ).1.qs, q.name.length ≤ 255) ∧ (∀ r ∈ (packS b σ).1.an, r.name.length ≤ 255 ∧ r.data.length ≤ b.length) ∧ (∀ r ∈ (packS b σ).1.au, r.name.length ≤ 255 ∧ r.data.length ≤ b.length) ∧ (∀ r ∈ (packS b σ).1.mo, r.name.length ≤ 255 ∧ r.data.length ≤ b.length) := by
  have hq : ∀ (m : Nat) (τ : Nat × Int), ∀ q ∈ (sevS (qstS b) m τ).1, q.name.length ≤ 255 := fun m τ q h => by
    obtain ⟨υ, rfl⟩ := sev_mem m τ q h
    exact qstS_name υ
  have hr : ∀ (m : Nat) (τ : Nat × Int), ∀ r ∈ (sevS (recS b) m τ).1, r.name.length ≤ 255 ∧ r.data.length ≤ b.length := fun m τ r h => by
    obtain ⟨υ, rfl⟩ := sev_mem m τ r h
    exact ⟨recS_name υ, recS_data υ⟩
  exact ⟨fun q h => hq _ _ q h, fun r h => hr _ _ r h, fun r h => hr _ _ r h, fun r h => hr _ _ r h⟩
theorem pack4_dead {b : List UInt8} {i f q n1 n2 n3 k : Nat} {e : Int} (h : e ≠ 0) : (pack4 b i f q n1 n2 n3 (k, e)).2 = (k, e) := by
  have d1 := fun m => sev_dead (k := k) (one := qstS b) (fun k e he => qst_dead he) h m
  have d2 := fun m => sev_dead (k := k) (one := recS b) (fun k e he => rec_dead he) h m
  unfold pack4
  simp only [d1, d2]
theorem pack_short {b : List UInt8} (h : b.length < 12) : (packS b (0, 0)).2.2 = 2 := by
  have D : ∀ (k : Nat) (e : Int), e ≠ 0 → numS b 2 (k, e) = (0, (k, e)) := fun k e he => num_dead he
  have D2 := fun k => D k 2 (by decide)
  unfold packS
  by_cases h1 : b.length < 0 + 2
  · simp only [num_short h1, D2]; rw [pack4_dead (by decide)]
  simp only [num_two h1]
  by_cases h2 : b.length < 0 + 2 + 2
  · simp only [num_short h2, D2]; rw [pack4_dead (by decide)]
  simp only [num_two h2]
  by_cases h3 : b.length < 0 + 2 + 2 + 2
  · simp only [num_short h3, D2]; rw [pack4_dead (by decide)]
  simp only [num_two h3]
  by_cases h4 : b.length < 0 + 2 + 2 + 2 + 2
  · simp only [num_short h4, D2]; rw [pack4_dead (by decide)]
  simp only [num_two h4]
  by_cases h5 : b.length < 0 + 2 + 2 + 2 + 2 + 2
  · simp only [num_short h5, D2]; rw [pack4_dead (by decide)]
  simp only [num_two h5]
  rw [num_short (by omega)]
  simp only
  rw [pack4_dead (by decide)]
theorem pack_long {b : List UInt8} (h : ¬ b.length < 12) : packS b (0, 0) = pack4 b (w2 b) (w2 (b.drop 2)) (w2 (b.drop 4)) (w2 (b.drop 6)) (w2 (b.drop 8)) (w2 (b.drop 10)) (12, 0) := by
  unfold packS
  simp only [num_two (show ¬ b.length < 0 + 2 by omega)]
  simp only [num_two (show ¬ b.length < 0 + 2 + 2 by omega)]
  simp only [num_two (show ¬ b.length < 0 + 2 + 2 + 2 by omega)]
  simp only [num_two (show ¬ b.length < 0 + 2 + 2 + 2 + 2 by omega)]
  simp only [num_two (show ¬ b.length < 0 + 2 + 2 + 2 + 2 + 2 by omega)]
  simp only [num_two (show ¬ b.length < 0 + 2 + 2 + 2 + 2 + 2 + 2 by omega)]
  rfl
/-- what is read is what is parsed -/
theorem read_parse (b : List UInt8) : readS b = parse b := by
  unfold readS parse
  by_cases h12 : b.length < 12
  · rw [if_neg (by omega), if_pos (by rw [pack_short h12]; decide), if_pos h12, pack_short h12]
  rw [if_neg h12]
  by_cases hl : 65535 < b.length
  · rw [if_pos hl, if_pos hl]
  rw [if_neg hl, if_neg hl, pack_long h12]
  unfold pack4
  simp only
  obtain ⟨q1, q2⟩ := sev_qs b (w2 (b.drop 4)) 12 (by omega)
  by_cases hq : (qsF (w2 (b.drop 4)) b 12).2.2 = 0
  rotate_left
  · conv => rhs; rw [if_pos hq]
    have h1 := q2 hq
    obtain ⟨⟨Q, k, e⟩, hz⟩ : ∃ z, sevS (qstS b) (w2 (b.drop 4)) (12, 0) = z := ⟨_, rfl⟩
    rw [hz] at h1 ⊢
    replace h1 : e = _ := h1
    subst h1
    have d2 := fun m => sev_dead (k := k) (one := recS b) (fun k e he => rec_dead he) hq m
    simp only [d2]
    rw [if_pos hq]
  obtain ⟨q3, q4⟩ := q1 hq
  conv => rhs; rw [if_neg (by simp [hq])]
  rw [q3]
  simp only
  obtain ⟨a1, a2⟩ := sev_rs b (w2 (b.drop 6)) _ q4
  by_cases ha : (rsF (w2 (b.drop 6)) b (qsF (w2 (b.drop 4)) b 12).2.1).2.2 = 0
  rotate_left
  · conv => rhs; rw [if_pos ha]
    have h1 := a2 ha
    obtain ⟨⟨Q, k, e⟩, hz⟩ : ∃ z, sevS (recS b) (w2 (b.drop 6)) ((qsF (w2 (b.drop 4)) b 12).2.1, 0) = z := ⟨_, rfl⟩
    rw [hz] at h1 ⊢
    replace h1 : e = _ := h1
    subst h1
    have d2 := fun m => sev_dead (k := k) (one := recS b) (fun k e he => rec_dead he) ha m
    simp only [d2]
    rw [if_pos ha]
  obtain ⟨a3, a4⟩ := a1 ha
  conv => rhs; rw [if_neg (by simp [ha])]
  rw [a3]
  simp only
  obtain ⟨u1, u2⟩ := sev_rs b (w2 (b.drop 8)) _ a4
  by_cases hu : (rsF (w2 (b.drop 8)) b (rsF (w2 (b.drop 6)) b (qsF (w2 (b.drop 4)) b 12).2.1).2.1).2.2 = 0
  rotate_left
  · conv => rhs; rw [if_pos hu]
    have h1 := u2 hu
    obtain ⟨⟨Q, k, e⟩, hz⟩ : ∃ z, sevS (recS b) (w2 (b.drop 8)) ((rsF (w2 (b.drop 6)) b (qsF (w2 (b.drop 4)) b 12).2.1).2.1, 0) = z := ⟨_, rfl⟩
    rw [hz] at h1 ⊢
    replace h1 : e = _ := h1
    subst h1
    have d2 := fun m => sev_dead (k := k) (one := recS b) (fun k e he => rec_dead he) hu m
    simp only [d2]
    rw [if_pos hu]
  obtain ⟨u3, u4⟩ := u1 hu
  conv => rhs; rw [if_neg (by simp [hu])]
  rw [u3]
  simp only
  obtain ⟨m1, m2⟩ := sev_rs b (w2 (b.drop 10)) _ u4
  by_cases hm : (rsF (w2 (b.drop 10)) b (rsF (w2 (b.drop 8)) b (rsF (w2 (b.drop 6)) b (qsF (w2 (b.drop 4)) b 12).2.1).2.1).2.1).2.2 = 0
  rotate_left
  · conv => rhs; rw [if_pos hm]
    rw [m2 hm, if_pos hm]
  obtain ⟨m3, m4⟩ := m1 hm
  conv => rhs; rw [if_neg (by simp [hm])]
  rw [m3]
  simp only
  rw [if_neg (by simp)]
  unfold ended
  generalize (rsF (w2 (b.drop 10)) b (rsF (w2 (b.drop 8)) b (rsF (w2 (b.drop 6)) b (qsF (w2 (b.drop 4)) b 12).2.1).2.1).2.1).2.1 = z at *
  by_cases hzl : z < b.length
  · rw [if_pos hzl, if_pos (by omega)]
  · rw [if_neg hzl]
    conv => rhs; rw [if_neg (by omega)]
end Pk
end Go.Proofs.Ytbioblknhfmelaa

