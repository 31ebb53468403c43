/- EMath (merged). -/
import Derived.Below
import GoSem.Op.String
namespace Go.Proofs.Ytbioblknhfmelaa
set_option linter.unusedSimpArgs false

/-- an entry's parts -/
structure Ent where
  key : Int
  ver : Int
  val : List UInt8
deriving DecidableEq

namespace E

/-! ### Bytes in order -/
def lt (a b : List UInt8) : Bool := Op.bytesLess a b
theorem lt_trans : ∀ a b c, lt a b = true → lt b c = true → lt a c = true := by
  intro a
  unfold lt
  induction a with
  | nil => intro b c h1 h2; cases c with
    | nil => cases b <;> simp [Op.bytesLess] at h2
    | cons z t => rfl
  | cons x r ih =>
    intro b c h1 h2
    cases b with
    | nil => simp [Op.bytesLess] at h1
    | cons y s =>
      cases c with
      | nil => simp [Op.bytesLess] at h2
      | cons z t =>
        simp only [Op.bytesLess, Bool.or_eq_true, decide_eq_true_eq, Bool.and_eq_true, beq_iff_eq] at h1 h2 ⊢
        rcases h1 with h1 | ⟨rfl, h1⟩
        · rcases h2 with h2 | ⟨rfl, h2⟩
          · exact Or.inl (UInt8.lt_trans h1 h2)
          · exact Or.inl h1
        · rcases h2 with h2 | ⟨rfl, h2⟩
          · exact Or.inl h2
          · exact Or.inr ⟨rfl, ih _ _ h1 h2⟩
/-! ### Entries in order -/
/-- above, of one key -/
def above (a b : Ent) : Bool := decide (b.ver < a.ver) || (decide (a.ver = b.ver) && lt b.val a.val)
/-! ### Tables -/
def may (x : Ent) : Prop := 0 ≤ x.key ∧ x.key < 12 ∧ 1 ≤ x.ver ∧ x.ver ≤ 1099511627776 ∧ x.val.length ≤ 200
instance (x : Ent) : Decidable (may x) := by unfold may; exact inferInstance
def rising : List Ent → Prop
  | [] => True
  | x :: r => (∀ y ∈ r, x.key < y.key) ∧ rising r
def right (l : List Ent) : Prop := (∀ x ∈ l, may x) ∧ rising l
def get (l : List Ent) (k : Int) : Option Ent := l.find? fun x => x.key == k
def put : List Ent → Ent → List Ent
  | [], x => [x]
  | y :: r, x => if y.key < x.key then y :: put r x else if y.key = x.key then x :: r else x :: y :: r
def step (l : List Ent) (y : Ent) : List Ent :=
  match get l y.key with
  | none => put l y
  | some x => if above y x then put l y else l
def join (a b : List Ent) : List Ent := b.foldl step a
def over (a b : List Ent) : Prop := join a b = a
def top (l : List Ent) : Int := l.foldl (fun n x => max n x.ver) 0

/-! ### The lattice -/
/-! ### The greatest version -/
end E
end Go.Proofs.Ytbioblknhfmelaa

