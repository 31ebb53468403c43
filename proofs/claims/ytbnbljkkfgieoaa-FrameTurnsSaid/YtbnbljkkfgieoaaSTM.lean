/- A bit turned in a row of bytes, in plain mathematics. -/
import Derived.Test.YtbnbljkkfgieoaaSMath
import Derived.Test.YtbnbljkkfgieoaaMem
import Derived.Laws.BitsAllLaws
namespace Go.Proofs.Ytbnbljkkfgieoaa
open Go.RowKit

theorem U_turn {l : List UInt8} {m : Nat} {x : UInt8} (hx : l[m / 8]? = some x) : U (S.turn l m) = (U l).set (m / 8) (.int .u8 ((x ^^^ UInt8.ofNat (2 ^ (m % 8))).toNat : Int)) := by
  apply List.ext_getElem?
  intro j
  rw [U_get, List.getElem?_set, S.turn, List.getElem?_modify, U_length]
  by_cases hj : m / 8 = j
  · subst hj
    have hlt : m / 8 < l.length := (List.getElem?_eq_some_iff.1 hx).1
    rw [if_pos rfl, if_pos hlt, hx]
    simp
  · rw [if_neg hj, U_get]
    simp [hj]
theorem turn_bits2 (x : UInt8) (m : Nat) : bits BinOp.xor IntKind.u8 (x.toNat : Int) ((2 : Int) ^ (m % 8) % 256) = ((x ^^^ UInt8.ofNat (2 ^ (m % 8))).toNat : Int) := by
  have hp : 2 ^ (m % 8) < 256 := by calc 2 ^ (m % 8) < 2 ^ 8 := Nat.pow_lt_pow_right (by omega) (Nat.mod_lt _ (by omega))
                                      _ = 256 := rfl
  have e2 : (2 : Int) ^ (m % 8) = ((2 ^ (m % 8) : Nat) : Int) := by simp
  rw [e2]
  clear e2
  generalize 2 ^ (m % 8) = p at hp ⊢
  rw [show ((p : Int) % 256) = (p : Int) by omega, u8_xor_nat _ _ x.toNat_lt hp, UInt8.toNat_xor, UInt8.toNat_ofNat', Nat.mod_eq_of_lt hp]
theorem turn_bits (x : UInt8) (m : Nat) : bits BinOp.xor IntKind.u8 (x.toNat : Int) (IntKind.u8.wrap (2 ^ ((m : Int) % 8).toNat)) = ((x ^^^ UInt8.ofNat (2 ^ (m % 8))).toNat : Int) := by
  have e : ((m : Int) % 8).toNat = m % 8 := by omega
  rw [e, IntKind.wrap_u8']
  exact turn_bits2 x m

theorem turnI_in {l : List UInt8} {i : Int} (h : 0 ≤ i) : S.turnI l i = S.turn l i.toNat := if_pos h
theorem turnI_out {l : List UInt8} {i : Int} (h : i < 0 ∨ 8 * (l.length : Int) ≤ i) : S.turnI l i = l := by
  unfold S.turnI
  split
  · unfold S.turn; rw [List.modify_eq_self]; omega
  · rfl
end Go.Proofs.Ytbnbljkkfgieoaa
