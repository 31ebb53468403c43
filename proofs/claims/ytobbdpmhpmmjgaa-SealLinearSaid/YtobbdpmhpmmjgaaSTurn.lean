/- layer 2's Turn and its reference. -/
import Derived.Test.YtobbdpmhpmmjgaaSSeal
import Derived.Deep.AppendLies
namespace Go.Proofs.Ytobbdpmhpmmjgaa
open Go.RowKit

theorem U_turn {l : List UInt8} {m : Nat} {x : UInt8} (hx : l[m / 8]? = some x) : U (S.turn l m) = (U l).set (m / 8) (.int .u8 ((x ^^^ UInt8.ofNat (2 ^ (m % 8))).toNat : Int)) := by
  apply List.ext_getElem?
  intro j
  rw [U_get, List.getElem?_set, S.turn, List.getElem?_modify, U_length]
  by_cases hj : m / 8 = j
  · subst hj
    have hlt : m / 8 < l.length := (List.getElem?_eq_some_iff.1 hx).1
    rw [if_pos rfl, if_pos hlt, hx]
    simp
  · rw [if_neg hj, U_get]
    simp [hj]
theorem turn_bits2 (x : UInt8) (m : Nat) : bits BinOp.xor IntKind.u8 (x.toNat : Int) ((2 : Int) ^ (m % 8) % 256) = ((x ^^^ UInt8.ofNat (2 ^ (m % 8))).toNat : Int) := by
  have hp : 2 ^ (m % 8) < 256 := by calc 2 ^ (m % 8) < 2 ^ 8 := Nat.pow_lt_pow_right (by omega) (Nat.mod_lt _ (by omega))
                                      _ = 256 := rfl
  have e2 : (2 : Int) ^ (m % 8) = ((2 ^ (m % 8) : Nat) : Int) := by simp
  rw [e2]
  clear e2
  generalize 2 ^ (m % 8) = p at hp ⊢
  rw [show ((p : Int) % 256) = (p : Int) by omega, u8_xor_nat _ _ x.toNat_lt hp, UInt8.toNat_xor, UInt8.toNat_ofNat', Nat.mod_eq_of_lt hp]
theorem turn_bits (x : UInt8) (m : Nat) : bits BinOp.xor IntKind.u8 (x.toNat : Int) (IntKind.u8.wrap (2 ^ ((m : Int) % 8).toNat)) = ((x ^^^ UInt8.ofNat (2 ^ (m % 8))).toNat : Int) := by
  have e : ((m : Int) % 8).toNat = m % 8 := by omega
  rw [e, IntKind.wrap_u8']
  exact turn_bits2 x m

set_option maxHeartbeats 800000 in
set_option maxRecDepth 20000 in
theorem turn_in (A : Option Addr) (n c B m : Nat) (l : List UInt8) (w : World) (h : Rd w B 1 A n (U l)) (hB : B ≤ w.heap.size) (hn : n ≤ 35184372088832) (hm : m < 8 * n) :
    Calls Try.prog 15 #[.slice A n c, .int .i64 m] w fun e w' => ∃ A' c', e = .returned (.slice A' n c') ∧ w'.ownsRow w.heap.size 5 1 (.slice A' n c') n (U (S.turn l m)) ∧ Below w.heap.size w w' := by
  have h1 : m / 8 < n := by omega
  go_enter Try.func15, Try.ntmps15
  go_wp2_with (go_at_call 18; refine (clone_any A n c B l _ h hB (by omega)).mono ?_; rintro e w1 ⟨A1, c1, rfl, hown1, hb1⟩)
  obtain ⟨g, cap, e, hg1, hg2⟩ := hown1.form (by omega)
  obtain ⟨rfl, rfl⟩ : A1 = some ⟨g, 0, none⟩ ∧ c1 = cap := by simpa using e
  have hl : l.length = n := by have := h.len1; rwa [U_length] at this
  obtain ⟨x, hx⟩ : ∃ x, l[m / 8]? = some x := ⟨l[m / 8]'(by omega), List.getElem?_eq_getElem _⟩
  have hcell : w1.cell? ⟨g, m / 8, none⟩ = some (.int .u8 (x.toNat : Int)) := by rw [hown1.cellAt _ (by omega), U_get, hx]; rfl
  have hfr := hown1.frozenAt (m / 8)
  have hi0 : (0 : Int) ≤ (m : Int) / 8 := by omega
  have hi1 : (m : Int) / 8 < (n : Int) := by omega
  have hi2 : ((m : Int) / 8).toNat = m / 8 := by omega
  have hq : (m : Int).tdiv 8 = (m : Int) / 8 := Int.tdiv_eq_ediv_of_nonneg (by omega)
  have hw : IntKind.i64.wrap ((m : Int) / 8) = (m : Int) / 8 := by rw [show (m : Int) / 8 = ((m / 8 : Nat) : Int) by omega]; exact i64_small _ (by omega)
  have hr : (m : Int).tmod 8 = (m : Int) % 8 := Int.tmod_eq_emod_of_nonneg (by omega)
  have HX := Lib.hid hx
  have HL := Lib.hid hl
  have HO := Lib.hid hown1
  clear hx hl hown1 e
  go_region
  all_goals
    go_wp2
    go_ret
    first | rw [turn_bits x m] | rw [turn_bits2 x m] | trace_state
    refine ⟨some ⟨g, 0, none⟩, c1, rfl, ?_, (by first | exact hb1.drew.setCell (p := ⟨g, m / 8, none⟩) hg1 _ | exact hb1.setCell (p := ⟨g, m / 8, none⟩) hg1 _)⟩
    rw [U_turn HX.out]
    exact (HO.out.stored (m / 8) _).1

set_option maxHeartbeats 800000 in
theorem turn_out (A : Option Addr) (n c B : Nat) (i : Int) (l : List UInt8) (w : World) (h : Rd w B 1 A n (U l)) (hB : B ≤ w.heap.size) (hn : n ≤ 35184372088832) (hi : i < 0 ∨ 8 * (n : Int) ≤ i) (hi2 : -9223372036854775808 ≤ i) (hi3 : i ≤ 9223372036854775807) :
    Calls Try.prog 15 #[.slice A n c, .int .i64 i] w fun e w' => ∃ A' c', e = .returned (.slice A' n c') ∧ w'.ownsRow w.heap.size 5 1 (.slice A' n c') n (U l) ∧ Below w.heap.size w w' := by
  rcases hi with hi | hi
  · go_enter Try.func15, Try.ntmps15
    go_wp2_with (go_at_call 18; refine (clone_any A n c B l _ h hB (by omega)).mono ?_; rintro e w1 ⟨A1, c1, rfl, hown1, hb1⟩)
    go_ret
    exact ⟨A1, c1, rfl, hown1, hb1⟩
  · have hi4 : 0 ≤ i := by omega
    have hq : i.tdiv 8 = i / 8 := Int.tdiv_eq_ediv_of_nonneg hi4
    have hw : IntKind.i64.wrap (i / 8) = i / 8 := by
      obtain ⟨k, rfl⟩ := Int.eq_ofNat_of_zero_le hi4
      rw [show (k : Int) / 8 = ((k / 8 : Nat) : Int) by omega]; exact i64_small _ (by omega)
    have hlt : ¬ (i / 8 < (n : Int)) := by omega
    go_enter Try.func15, Try.ntmps15
    go_wp2_with (go_at_call 18; refine (clone_any A n c B l _ h hB (by omega)).mono ?_; rintro e w1 ⟨A1, c1, rfl, hown1, hb1⟩)
    go_ret
    exact ⟨A1, c1, rfl, hown1, hb1⟩

theorem turnI_in {l : List UInt8} {i : Int} (h : 0 ≤ i) : S.turnI l i = S.turn l i.toNat := if_pos h
theorem turnI_out {l : List UInt8} {i : Int} (h : i < 0 ∨ 8 * (l.length : Int) ≤ i) : S.turnI l i = l := by
  unfold S.turnI
  split
  · unfold S.turn; rw [List.modify_eq_self]; omega
  · rfl

theorem turn_any (A : Option Addr) (n c B : Nat) (i : Int) (l : List UInt8) (w : World) (h : Rd w B 1 A n (U l)) (hB : B ≤ w.heap.size) (hn : n ≤ 35184372088832) (hi2 : -9223372036854775808 ≤ i) (hi3 : i ≤ 9223372036854775807) :
    Calls Try.prog 15 #[.slice A n c, .int .i64 i] w fun e w' => ∃ A' c', e = .returned (.slice A' n c') ∧ w'.ownsRow w.heap.size 5 1 (.slice A' n c') n (U (S.turnI l i)) ∧ Below w.heap.size w w' := by
  have hl : l.length = n := by have := h.len1; rwa [U_length] at this
  by_cases h1 : i < 0 ∨ 8 * (n : Int) ≤ i
  · rw [turnI_out (by rw [hl]; exact h1)]
    exact turn_out A n c B i l w h hB hn h1 hi2 hi3
  · have h2 : 0 ≤ i := by omega
    obtain ⟨k, rfl⟩ := Int.eq_ofNat_of_zero_le h2
    rw [turnI_in h2]
    exact turn_in A n c B k l w h hB hn (by omega)
end Go.Proofs.Ytobbdpmhpmmjgaa
