/- The code's predicates on endpoints' states, IndexFunc and add on views. -/
import Derived.Test.YtpfkgddcoancnaaVRef3
import Derived.Test.YtpfkgddcoancnaaTCode3
import Derived.Shelf.Abstract
namespace Go.Proofs.Ytpfkgddcoancnaa
set_option linter.unusedVariables false
set_option linter.unusedSimpArgs false
open Go.RowKit

/-- an endpoint's state as a value -/
def nv (x : Nv) : Value := .agg #[.int .i64 x.node, .int .i64 x.v.s.gen, .int .i64 x.v.s.beat, .slice x.v.A x.v.n x.v.c]
/-- a predicate on endpoints that captures one variable, in whatever later world -/
def MeantN (base g : Nat) (cp : Array Value) (q : Int → Bool) (w : World) : Prop :=
  ∀ (x : Nv) (W : World), Below base w W → Calls Try.prog g (#[nv x] ++ cp) W fun e w' => e = .returned (.bool (q x.node)) ∧ Below W.heap.size W w'
theorem vegGet : ∀ args w, (callFunc 34 args).run Try.prog w = .ok (.enter 34 args) w := enters_of Try.func34 (by kernel_rfl) rfl
theorem vegLt : ∀ args w, (callFunc 47 args).run Try.prog w = .ok (.enter 47 args) w := enters_of Try.func47 (by kernel_rfl) rfl
theorem vegGt : ∀ args w, (callFunc 48 args).run Try.prog w = .ok (.enter 48 args) w := enters_of Try.func48 (by kernel_rfl) rfl
theorem vegNe : ∀ args w, (callFunc 44 args).run Try.prog w = .ok (.enter 44 args) w := enters_of Try.func44 (by kernel_rfl) rfl
theorem vegAll : ∀ args w, (callFunc 43 args).run Try.prog w = .ok (.enter 43 args) w := enters_of Try.func43 (by kernel_rfl) rfl
theorem vmeant_all {base : Nat} {w : World} : MeantN base 43 #[] (fun _ => true) w := fun x W hbel => by
  simp only [nv, Array.append_empty]
  go_enter Try.func43, Try.ntmps43
  go_wp2
  go_ret
  exact ⟨rfl, (Below.refl _ _).alloc (Nat.le_refl _) _⟩
theorem vmeant_get {base b : Nat} {node : Int} {w : World} (hb : b < base) (hw : base ≤ w.heap.size) (hc : w.cell? ⟨b, 0, none⟩ = some (.int .i64 node)) : MeantN base 34 #[.pointer (some ⟨b, 0, none⟩)] (fun y => y == node) w := fun x W hbel => by
  have h1 := (hbel.cell (p := ⟨b, 0, none⟩) hb).trans hc
  have h2 := (World.cell?_alloc_lt W (.cells #[.int .i64 x.node, .int .i64 x.v.s.gen, .int .i64 x.v.s.beat, .slice x.v.A x.v.n x.v.c] 45) ⟨b, 0, none⟩ (by have := hbel.size; show b < _; omega)).trans h1
  clear h1 hc
  show Calls Try.prog 34 #[nv x, .pointer (some ⟨b, 0, none⟩)] W _
  simp only [nv]
  go_enter Try.func34, Try.ntmps34
  go_wp2
  go_ret
  exact ⟨rfl, (Below.refl _ _).alloc (Nat.le_refl _) _⟩
theorem vmeant_lt {base b : Nat} {node : Int} {w : World} (hb : b < base) (hw : base ≤ w.heap.size) (hc : w.cell? ⟨b, 0, none⟩ = some (.int .i64 node)) : MeantN base 47 #[.pointer (some ⟨b, 0, none⟩)] (fun y => decide (y < node)) w := fun x W hbel => by
  have h1 := (hbel.cell (p := ⟨b, 0, none⟩) hb).trans hc
  have h2 := (World.cell?_alloc_lt W (.cells #[.int .i64 x.node, .int .i64 x.v.s.gen, .int .i64 x.v.s.beat, .slice x.v.A x.v.n x.v.c] 45) ⟨b, 0, none⟩ (by have := hbel.size; show b < _; omega)).trans h1
  clear h1 hc
  show Calls Try.prog 47 #[nv x, .pointer (some ⟨b, 0, none⟩)] W _
  simp only [nv]
  go_enter Try.func47, Try.ntmps47
  go_wp2
  go_ret
  exact ⟨rfl, (Below.refl _ _).alloc (Nat.le_refl _) _⟩
theorem vmeant_gt {base b : Nat} {node : Int} {w : World} (hb : b < base) (hw : base ≤ w.heap.size) (hc : w.cell? ⟨b, 0, none⟩ = some (.int .i64 node)) : MeantN base 48 #[.pointer (some ⟨b, 0, none⟩)] (fun y => decide (node < y)) w := fun x W hbel => by
  have h1 := (hbel.cell (p := ⟨b, 0, none⟩) hb).trans hc
  have h2 := (World.cell?_alloc_lt W (.cells #[.int .i64 x.node, .int .i64 x.v.s.gen, .int .i64 x.v.s.beat, .slice x.v.A x.v.n x.v.c] 45) ⟨b, 0, none⟩ (by have := hbel.size; show b < _; omega)).trans h1
  clear h1 hc
  show Calls Try.prog 48 #[nv x, .pointer (some ⟨b, 0, none⟩)] W _
  simp only [nv]
  go_enter Try.func48, Try.ntmps48
  go_wp2
  go_ret
  exact ⟨rfl, (Below.refl _ _).alloc (Nat.le_refl _) _⟩
theorem vmeant_ne {base b : Nat} {node : Int} {w : World} (hb : b < base) (hw : base ≤ w.heap.size) (hc : w.cell? ⟨b, 0, none⟩ = some (.int .i64 node)) : MeantN base 44 #[.pointer (some ⟨b, 0, none⟩)] (fun y => y != node) w := fun x W hbel => by
  have h1 := (hbel.cell (p := ⟨b, 0, none⟩) hb).trans hc
  have h2 := (World.cell?_alloc_lt W (.cells #[.int .i64 x.node, .int .i64 x.v.s.gen, .int .i64 x.v.s.beat, .slice x.v.A x.v.n x.v.c] 45) ⟨b, 0, none⟩ (by have := hbel.size; show b < _; omega)).trans h1
  clear h1 hc
  show Calls Try.prog 44 #[nv x, .pointer (some ⟨b, 0, none⟩)] W _
  simp only [nv]
  go_enter Try.func44, Try.ntmps44
  go_wp2
  go_ret
  exact ⟨rfl, (Below.refl _ _).alloc (Nat.le_refl _) _⟩

/-- where the first one is whose endpoint is meant -/
def FoundN (q : Int → Bool) (l : List Nv) (i : Int) : Prop :=
  (i = -1 ∧ ∀ y ∈ l, q y.node = false) ∨ ∃ (k : Nat) (x : Nv), i = k ∧ l[k]? = some x ∧ q x.node = true ∧ ∀ y ∈ l.take k, q y.node = false

set_option maxHeartbeats 1000000 in
theorem vidx_any (U : Vw) (q : Int → Bool) (g : Nat) (bp : Value) (eg : ∀ args w, (callFunc g args).run Try.prog w = .ok (.enter g args) w) (w : World) (h : VRd w U) (hn : U.n ≤ 1000) (hp : MeantN w.heap.size g #[bp] q w) :
    Calls Try.prog 33 #[vval U, .func (.func g) #[] #[bp]] w fun e w' => (∃ i, e = .returned (.int .i64 i) ∧ FoundN q U.l i) ∧ Below w.heap.size w w' := by
  obtain ⟨l, A, n, c⟩ := U
  have hl := h.len
  simp only at hn hl
  have HL := Lib.hid hl
  have HP := Lib.hid hp
  clear hl hp
  simp only [vval]
  go_enter Try.func33, Try.ntmps33
  go_wp2
  go_loopw [8] (fun i wr => ∃ k : Nat, k ≤ n ∧ i = .int .i64 k ∧ (∀ y ∈ l.take k, q y.node = false) ∧ Below w.heap.size w wr) (fun i _ => n - (intOf i).toNat)
  case atStart => exact ⟨0, by omega, rfl, by simp, Below.refl _ _⟩
  case round =>
    obtain ⟨k, hk, rfl, hno, hbel⟩ := hrel
    have HN := Lib.hid hno
    have hbs := hbel.size
    clear hno
    by_cases hlt : k < n
    · obtain ⟨b, o, x, e1, hb, hx, hsx, c0, c1, c2, c3⟩ := (h.belowH hbel).at hlt
      simp only at e1 hx
      subst e1
      have HX := Lib.hid hx
      clear hx hsx
      have hk0 : (0 : Int) ≤ (k : Int) := by omega
      go_wp2_with fail
      refine (HP.out x _ hbel).mono ?_
      rintro e w2 ⟨rfl, hb2⟩
      have HB2 := Lib.hid hb2
      clear hb2
      rcases hpx : q x.node
      · have HPX := Lib.hid hpx
        clear hpx
        go_wp2
        go_roundw
        case rel =>
          refine ⟨k + 1, by omega, by go_num, fun y hy => ?_, hbel.trans (HB2.out.mono hbs)⟩
          rw [take_more HX.out] at hy
          rcases List.mem_append.1 hy with hy | hy
          · exact HN.out y hy
          · obtain rfl : y = x := by simpa using hy
            exact HPX.out
        case measure => simp [intOf]; omega
      · have HPX := Lib.hid hpx
        clear hpx
        go_wp2
        go_ret
        exact ⟨⟨_, rfl, Or.inr ⟨k, x, rfl, HX.out, HPX.out, HN.out⟩⟩, hbel.trans (HB2.out.mono hbs)⟩
    · go_wp2
      go_ret
      exact ⟨⟨_, rfl, Or.inl ⟨rfl, by have := HN.out; rwa [List.take_of_length_le (by have := HL.out; omega)] at this⟩⟩, hbel⟩
end Go.Proofs.Ytpfkgddcoancnaa
