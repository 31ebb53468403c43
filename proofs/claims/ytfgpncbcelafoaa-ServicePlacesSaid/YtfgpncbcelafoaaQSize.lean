/- quill.Size, bellwetherref01.may and bellwetherref01.Size answer how many bytes a number has. -/
import Derived.Test.YtfgpncbcelafoaaBase
import Derived.Test.YtfgpncbcelafoaaQMath
import Derived.WalkKit
import Derived.Lib.Hide
import Derived.WalkSpells
namespace Go.Proofs.Ytfgpncbcelafoaa
open Go.RowKit

set_option maxHeartbeats 400000 in
theorem size_no (n : Int) (w : World) (h : ¬ Q.may n) :
    Calls Try.prog 36 #[.int .i64 n] w fun e w' => e = .returned (.int .i64 0) ∧ w = w' := by
  unfold Q.may at h
  by_cases h0 : n < 0
  · go_enter Try.func36, Try.ntmps36
    go_wp2
    go_ret
    exact ⟨rfl, rfl⟩
  · have h1 : 4611686018427387904 < n := by omega
    go_enter Try.func36, Try.ntmps36
    go_wp2
    go_ret
    exact ⟨rfl, rfl⟩

set_option maxHeartbeats 400000 in
theorem size_yes (n : Int) (w : World) (h0 : 0 ≤ n) (h1 : n ≤ 4611686018427387904) :
    Calls Try.prog 36 #[.int .i64 n] w fun e w' => e = .returned (.int .i64 (Q.sz n.toNat)) ∧ w = w' := by
  go_enter Try.func36, Try.ntmps36
  go_wp2
  go_loop [0, 3] (fun x s => ∃ c m : Nat, Q.SzAt n.toNat c m ∧ c ≤ 9 ∧ x = .int .i64 m ∧ s = .int .i64 c) (fun x _ => (intOf x).toNat)
  case atStart => exact ⟨1, n.toNat, Q.szAt_start _ (by omega), by omega, by go_num, rfl⟩
  case round =>
    obtain ⟨c, m, hs, hc, rfl, rfl⟩ := hrel
    have hm := (Q.szAt_le hs).2
    have hS := Lib.hid hs
    clear hs
    by_cases hlt : 127 < m
    · go_wp2
      go_round
      case rel => exact ⟨c + 1, m / 128, Q.szAt_step hS.out hlt, by have := (Q.szAt_le (Q.szAt_step hS.out hlt)).1; omega, by go_num, by go_num⟩
      case measure => simp [intOf]; omega
    · go_wp2
      go_ret
      exact ⟨by rw [Q.szAt_end hS.out (by omega)]; rfl, rfl⟩

/-- quill.Size, at any number. -/
theorem size_any (n : Int) (w : World) :
    Calls Try.prog 36 #[.int .i64 n] w fun e w' => e = .returned (.int .i64 (Q.size n)) ∧ w = w' := by
  by_cases h : Q.may n
  · have e : Q.size n = Q.sz n.toNat := by simp [Q.size, h]
    rw [e]; exact size_yes n w h.1 h.2
  · have e : Q.size n = 0 := by simp [Q.size, h]
    rw [e]; exact size_no n w h

/-- bellwetherref01.may -/
def mayB (n : Int) : Bool := decide (Q.may n)
theorem mayB_neg {n : Int} (h : n < 0) : mayB n = false := by
  have : ¬ Q.may n := fun k => by have := k.1; omega
  simp [mayB, this]
theorem may_any (n : Int) (w : World) :
    Calls Try.prog 38 #[.int .i64 n] w fun e w' => e = .returned (.bool (mayB n)) ∧ w = w' := by
  by_cases h0 : 0 ≤ n
  · by_cases h1 : n ≤ 4611686018427387904
    all_goals
      go_enter Try.func38, Try.ntmps38
      go_wp2
      go_ret
      exact ⟨by simp [mayB, Q.may, h0, h1], rfl⟩
  · go_enter Try.func38, Try.ntmps38
    go_wp2
    go_ret
    exact ⟨ret_bool (mayB_neg h0).symm, rfl⟩

theorem rsize_no (n : Int) (w : World) (h : ¬ Q.may n) :
    Calls Try.prog 40 #[.int .i64 n] w fun e w' => e = .returned (.int .i64 0) ∧ w = w' := by
  have hb : mayB n = false := by simp [mayB, h]
  clear h
  go_enter Try.func40, Try.ntmps40
  go_wp2_with (go_at_call 38; refine (may_any _ _).mono ?_; rintro e w' ⟨rfl, rfl⟩)
  go_ret
  exact ⟨rfl, rfl⟩
theorem rsize_yes (f : Nat) : f ≤ 8 → ∀ (n : Int) (w : World), 0 ≤ n → n ≤ 4611686018427387904 → n < 128 ^ (f + 1) →
    Calls Try.prog 40 #[.int .i64 n] w fun e w' => e = .returned (.int .i64 (Q.szf f n.toNat)) ∧ w = w' := by
  induction f with
  | zero =>
    intro _ n w h0 h1 hlt
    have hlt : n < 128 := by simpa using hlt
    have hb : mayB n = true := by simp [mayB, Q.may, h0, h1]
    go_enter Try.func40, Try.ntmps40
    go_wp2_with (go_at_call 38; refine (may_any _ _).mono ?_; rintro e w' ⟨rfl, rfl⟩)
    go_ret
    exact ⟨rfl, rfl⟩
  | succ f ih =>
    intro hf n w h0 h1 hlt
    have hb : mayB n = true := by simp [mayB, Q.may, h0, h1]
    have IH := Lib.hid ih
    clear ih
    have hlt' : n / 128 < 128 ^ (f + 1) := by
      rw [Int.pow_succ] at hlt; omega
    have HL := Lib.hid hlt'
    clear hlt hlt'
    have hsz := Q.szf_le f (n / 128).toNat
    by_cases hs : n < 128
    · go_enter Try.func40, Try.ntmps40
      go_wp2_with (go_at_call 38; refine (may_any _ _).mono ?_; rintro e w' ⟨rfl, rfl⟩)
      go_ret
      exact ⟨by simp only [Q.szf]; rw [if_pos (by omega)]; rfl, rfl⟩
    · go_enter Try.func40, Try.ntmps40
      go_wp2_with (first
        | (go_at_call 38; refine (may_any _ _).mono ?_; rintro e w' ⟨rfl, rfl⟩)
        | (go_at_call 40; refine (IH.out (by omega) _ _ (by omega) (by omega) HL.out).mono ?_; rintro e w' ⟨rfl, rfl⟩))
      go_ret
      exact ⟨ret_int (by simp only [Q.szf]; rw [if_neg (by omega), show n.toNat / 128 = (n / 128).toNat by omega]; omega), rfl⟩
theorem rsize_any (n : Int) (w : World) :
    Calls Try.prog 40 #[.int .i64 n] w fun e w' => e = .returned (.int .i64 (Q.size n)) ∧ w = w' := by
  by_cases h : Q.may n
  · have e : Q.size n = Q.szf 8 n.toNat := by simp [Q.size, Q.sz, h]
    rw [e]; exact rsize_yes 8 (by omega) n w h.1 h.2 (by have := h.2; omega)
  · have e : Q.size n = 0 := by simp [Q.size, h]
    rw [e]; exact rsize_no n w h
end Go.Proofs.Ytfgpncbcelafoaa
