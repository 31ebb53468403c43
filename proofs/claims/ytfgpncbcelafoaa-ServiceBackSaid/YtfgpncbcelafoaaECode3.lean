/- The code's functions that go over tables with a predicate: IndexFunc, Get, add, Above, Clone, Equal, Same. -/
import Derived.Test.YtfgpncbcelafoaaECode2
import Derived.Shelf.Abstract
namespace Go.Proofs.Ytfgpncbcelafoaa
set_option linter.unusedVariables false
set_option linter.unusedSimpArgs false
open Go.RowKit

/-- a predicate that captures one variable, in whatever later world -/
def Meant (base g : Nat) (bp : Value) (p : Ent → Bool) (w : World) : Prop :=
  ∀ (x : Ent) (W : World), Below base w W → Calls Try.prog g #[ev x, bp] W fun e w' => e = .returned (.bool (p x)) ∧ Below W.heap.size W w'
theorem egKey : ∀ args w, (callFunc 43 args).run Try.prog w = .ok (.enter 43 args) w := enters_of Try.func43 (by kernel_rfl) rfl
theorem meant_key {base b : Nat} {key : Int} {w : World} (hb : b < base) (hw : base ≤ w.heap.size) (hc : w.cell? ⟨b, 0, none⟩ = some (.int .i64 key)) : Meant base 43 (.pointer (some ⟨b, 0, none⟩)) (fun y => y.key == key) w := fun x W hbel => by
  have h1 := (hbel.cell (p := ⟨b, 0, none⟩) hb).trans hc
  have h2 := (World.cell?_alloc_lt W (.cells #[.int .i64 x.key, .int .i64 x.ver, .string (strB x.val)] 40) ⟨b, 0, none⟩ (by have := hbel.size; show b < _; omega)).trans h1
  clear h1 hc
  simp only [ev]
  go_enter Try.func43, Try.ntmps43
  go_wp2
  go_ret
  exact ⟨rfl, (Below.refl _ _).alloc (Nat.le_refl _) _⟩
/-- where the first one is of which p holds -/
def Found (p : Ent → Bool) (l : List Ent) (i : Int) : Prop :=
  (i = -1 ∧ ∀ y ∈ l, p y = false) ∨ ∃ (k : Nat) (x : Ent), i = k ∧ l[k]? = some x ∧ p x = true ∧ ∀ y ∈ l.take k, p y = false

theorem idx_any (l : List Ent) (p : Ent → Bool) (g : Nat) (bp : Value) (eg : ∀ args w, (callFunc g args).run Try.prog w = .ok (.enter g args) w) (A : Option Addr) (n c B : Nat) (w : World) (h : Rd w B 3 A n (EC l)) (hB : B ≤ w.heap.size) (hn : n * 32 ≤ 140737488351232) (hp : Meant w.heap.size g bp p w) :
    Calls Try.prog 42 #[.slice A n c, .func (.func g) #[] #[bp]] w fun e w' => (∃ i, e = .returned (.int .i64 i) ∧ Found p l i) ∧ Below w.heap.size w w' := by
  have hl := h.lenE
  have HL := Lib.hid hl
  have HP := Lib.hid hp
  clear hl hp
  go_enter Try.func42, Try.ntmps42
  go_wp2
  go_loopw [8] (fun i wr => ∃ k : Nat, k ≤ n ∧ i = .int .i64 k ∧ (∀ y ∈ l.take k, p y = false) ∧ Below w.heap.size w wr) (fun i _ => n - (intOf i).toNat)
  case atStart => exact ⟨0, by omega, rfl, by simp, Below.refl _ _⟩
  case round =>
    obtain ⟨k, hk, rfl, hno, hbel⟩ := hrel
    have HN := Lib.hid hno
    have hbs := hbel.size
    clear hno
    by_cases hlt : k < n
    · obtain ⟨b, o, x, e1, hb, hx, c0, c1, c2⟩ := (h.below (hbel.mono hB)).atE hlt
      subst e1
      have HX := Lib.hid hx
      clear hx
      go_wp2_with fail
      refine (HP.out x _ hbel).mono ?_
      rintro e w2 ⟨rfl, hb2⟩
      have HB2 := Lib.hid hb2
      clear hb2
      rcases hpx : p x
      · have HPX := Lib.hid hpx
        clear hpx
        go_wp2
        go_roundw
        case rel =>
          refine ⟨k + 1, by omega, by go_num, fun y hy => ?_, hbel.trans (HB2.out.mono hbs)⟩
          rw [take_more HX.out] at hy
          rcases List.mem_append.1 hy with hy | hy
          · exact HN.out y hy
          · obtain rfl : y = x := by simpa using hy
            exact HPX.out
        case measure => simp [intOf]; omega
      · have HPX := Lib.hid hpx
        clear hpx
        go_wp2
        go_ret
        exact ⟨⟨_, rfl, Or.inr ⟨k, x, rfl, HX.out, HPX.out, HN.out⟩⟩, hbel.trans (HB2.out.mono hbs)⟩
    · go_wp2
      go_ret
      exact ⟨⟨_, rfl, Or.inl ⟨rfl, by have := HN.out; rwa [List.take_of_length_le (by have := HL.out; omega)] at this⟩⟩, hbel⟩
end Go.Proofs.Ytfgpncbcelafoaa
