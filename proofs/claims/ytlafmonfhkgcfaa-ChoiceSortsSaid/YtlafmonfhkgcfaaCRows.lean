/- Lists of numbers, and draws, that came in. -/
import Derived.Test.YtlafmonfhkgcfaaChecked
import Derived.Test.YtlafmonfhkgcfaaCAlive
import Derived.Test.YtlafmonfhkgcfaaOpenA
import Derived.ChangeArms
import Derived.ChangeSlices
import Derived.Lib.SmallJoins
import Derived.Deep.Strs
namespace Go.Proofs.Ytlafmonfhkgcfaa
set_option linter.unusedVariables false
set_option linter.unusedSimpArgs false
open Go.RowKit Go.ChangeShapes Go.WideShapes Go.Joins Go.Deep
/-- three lists, and where they lie -/
structure Tl where
  al : List Int
  dn : List Int
  sd : List Int
  A1 : Option Addr
  n1 : Nat
  c1 : Nat
  A2 : Option Addr
  n2 : Nat
  c2 : Nat
  A3 : Option Addr
  n3 : Nat
  c3 : Nat
def tval (u : Tl) : Value := .agg #[.slice u.A1 u.n1 u.c1, .slice u.A2 u.n2 u.c2, .slice u.A3 u.n3 u.c3]
def IntIn (W : World) (A : Option Addr) (n c : Nat) (l : List Int) : Prop := Rd W W.heap.size 1 A n (I l) ∧ n * 8 ≤ 140737488351232
def TlIn (W : World) (u : Tl) : Prop := IntIn W u.A1 u.n1 u.c1 u.al ∧ IntIn W u.A2 u.n2 u.c2 u.dn ∧ IntIn W u.A3 u.n3 u.c3 u.sd
theorem introwC_of {H : Type} {enc : TypeId × Value → H} {W : World} {base fuel : Nat} {spare : Nat → Bool} {held : Bool} {v : Value} {x : DataW H × List MemPlace} (hsp : ∀ b, spare b = true)
    (hw : ∀ n ∈ x.1.weights Try.prog 22, n ≤ 140737488351232) (hf : DataW.trod enc Try.prog W base spare held fuel 22 [v] = some x) : ∃ a len cap l, v = .slice a len cap ∧ IntIn W a len cap l := by
  rcases open_slice Try.underlying22 hf with ⟨hcs, _⟩ | ⟨a, len, cap, m, n, D, Pl, hcs, hb, hl, hm, hmm, hx0, hi⟩
  · obtain rfl : v = .slice none 0 0 := by simpa using hcs
    exact ⟨none, 0, 0, [], rfl, Rd.zero _ _ _ _, by omega⟩
  · obtain rfl : v = .slice (some a) len cap := by simpa using hcs
    have hB : Try.prog.bytesOf 3 = 8 := by kernel_rfl
    have hlen : len * 8 ≤ 140737488351232 := by
      rw [hx0] at hw
      have hw : ∀ n ∈ (DataW.slice ((List.range len).map D) ((List.range (m - len)).map fun j => D (len + j))).weights Try.prog 22, n ≤ 140737488351232 := hw
      rw [weights_slice Try.underlying22, hB] at hw
      have hlen := hw _ (List.mem_cons_self ..)
      simp only [List.length_map, List.length_range] at hlen
      exact Nat.le_trans (Nat.mul_le_mul_right _ (Nat.le_add_right _ _)) hlen
    rcases open_ints Try.underlying22 Try.underlying3 (by kernel_rfl) hf with ⟨hcs, _⟩ | ⟨x, l, c, zs, hcs, _, hl, hm, hz, _, hcell, hwz⟩
    · cases hcs
    · obtain ⟨rfl, rfl, rfl⟩ : a = x ∧ len = l ∧ cap = c := by simpa using hcs
      have hrow : Row .i64 W (some a) len cap zs := .inr ⟨a, rfl, hl, hm, by rw [hz, hsp]; rfl, hcell, hwz⟩
      obtain ⟨l, hl, hr⟩ := hrow.ints
      exact ⟨some a, len, cap, l, rfl, hr, hlen⟩
theorem opens_Lists {H : Type} {enc : TypeId × Value → H} {W : World} {base b0 : Nat} {held : Bool} {r : Reach} {v : Value} {d : DataW H} {p : List MemPlace} (hv : Value.okWide Try.prog W r b0 24 v)
    (h : DataW.Trod enc Try.prog W base (fun _ => true) held 24 v d p) (hw : ∀ n ∈ d.weights Try.prog 24, n ≤ 140737488351232) : ∃ u, v = tval u ∧ TlIn W u := by
  obtain ⟨v0, v1, v2, y0, y1, y2, n, rfl, rfl, _, h0, h1, h2⟩ := open_agg3 Try.underlying24 (by kernel_rfl) (by kernel_rfl) hv h
  rw [weights_struct Try.underlying24] at hw
  obtain ⟨a, n1, c1, l, rfl, r1⟩ := introwC_of (fun _ => rfl) (fun k hk => hw k (DataW.weights_mem_each (j := 0) (t := 22) (d := y0.1) rfl rfl k hk)) h0
  obtain ⟨a', n2, c2, l', rfl, r2⟩ := introwC_of (fun _ => rfl) (fun k hk => hw k (DataW.weights_mem_each (j := 1) (t := 22) (d := y1.1) rfl rfl k hk)) h1
  obtain ⟨a'', n3, c3, l'', rfl, r3⟩ := introwC_of (fun _ => rfl) (fun k hk => hw k (DataW.weights_mem_each (j := 2) (t := 22) (d := y2.1) rfl rfl k hk)) h2
  exact ⟨⟨l, l', l'', a, n1, c1, a', n2, c2, a'', n3, c3⟩, rfl, r1, r2, r3⟩
def U32 (p : Int) : Prop := 0 ≤ p ∧ p ≤ 4294967295
def ThreeU (p q r : Int) : Prop := U32 p ∧ U32 q ∧ U32 r
theorem opens_ThreeU {H : Type} {enc : TypeId × Value → H} {W : World} {base b0 : Nat} {held : Bool} {r : Reach} {v : Value} {d : DataW H} {p : List MemPlace} (hv : Value.okWide Try.prog W r b0 26 v)
    (h : DataW.Trod enc Try.prog W base (fun _ => true) held 26 v d p) : ∃ p q r, v = .agg #[.int .u32 p, .int .u32 q, .int .u32 r] ∧ ThreeU p q r := by
  obtain ⟨zs, rfl, hl, hw⟩ := array_ints Try.underlying26 Try.underlying25 (by kernel_rfl) (by kernel_rfl) hv h
  match zs, hl, hw with
  | [a, b, c], _, hw => exact ⟨a, b, c, rfl, wf_bounds_u32 (hw a (by simp)), wf_bounds_u32 (hw b (by simp)), wf_bounds_u32 (hw c (by simp))⟩
theorem U32.nat {z : Int} (h : U32 z) : ∃ p : Nat, (p : Int) = z ∧ p ≤ 4294967295 := by
  obtain ⟨h1, h2⟩ := h
  exact ⟨z.toNat, by omega, by omega⟩
end Go.Proofs.Ytlafmonfhkgcfaa
