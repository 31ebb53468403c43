/- The walk of choice's law that draws choose all. -/
import Derived.Test.YtlafmonfhkgcfaaCAlive
import Derived.Deep.QuietTactic
namespace Go.Proofs.Ytlafmonfhkgcfaa
set_option linter.unusedVariables false
set_option linter.unusedSimpArgs false
open Go.RowKit
theorem fair_bound {z n : Nat} (hz : z ≤ 65535) (hn : n ≤ 100) : z * n ≤ 6553500 := Nat.le_trans (Nat.mul_le_mul hz hn) (by decide)
theorem wrap_small {x : Int} (h0 : 0 ≤ x) (h1 : x ≤ 9000000) : wrap64 x = x := by unfold wrap64; omega
theorem u32_in {z : Int} (h1 : 0 ≤ z) (h2 : z ≤ 4294967295) : IntKind.u32.wrap z = z := by
  have : IntKind.u32.wrap z = z % 4294967296 := rfl
  rw [this]; omega
theorem fair_nums {z n k : Nat} (hz : z ≤ 65535) (hn : n ≤ 100) (hk : k < n) : ∃ (m : Nat) (d : Int), z * n = m ∧ wrap64 ((z : Int) * (n : Int)) = (m : Int) ∧ wrap64 ((m : Int) + (k : Int)) = d ∧ IntKind.u32.wrap d = d ∧ ((m + k : Nat) : Int) = d ∧ m + k ≤ 4294967295 := by
  have hb := fair_bound hz hn
  have e : (z : Int) * (n : Int) = ((z * n : Nat) : Int) := by push_cast; rfl
  generalize z * n = m at hb e
  clear hz
  refine ⟨m, (m : Int) + (k : Int), rfl, by rw [e]; exact wrap_small (by omega) (by omega), wrap_small (by omega) (by omega), u32_in (by omega) (by omega), by push_cast; rfl, by omega⟩
theorem fair_one {l : List Int} {n k z : Nat} {x : Int} (hl : l.length = n) (hk : k < n) (hx : l[k]? = some x) : cfirst l (z * n + k) = x ∧ csome l = true := by
  have hne : l ≠ [] := fun e => by rw [e] at hl; simp at hl; omega
  refine ⟨?_, decide_eq_true hne⟩
  rw [cfirst_one hne]
  exact one_at hne (by rw [hl, Nat.mul_comm, Nat.mul_add_mod, Nat.mod_eq_of_lt hk]) hx
set_option maxHeartbeats 8000000 in
set_option maxRecDepth 100000 in
theorem law_ChoiceFair (a0 : Option Addr) (len0 cap0 : Nat) (z0 : List Int) (a1 : Int) (W : World) (w0 : Row .i64 W a0 len0 cap0 z0) (w1 : (Lit.int .u16 a1).wf = true) :
    Calls Try.prog 5 #[.slice a0 len0 cap0, .int .u16 a1] W fun e w' => e = .returned (.bool true) ∧ Below W.heap.size W w' := by
  obtain ⟨l, hl, h⟩ := w0.ints
  obtain ⟨f1, f2⟩ := wf_bounds_u16 w1
  obtain ⟨z, rfl⟩ := Int.eq_ofNat_of_zero_le f1
  have hz : z ≤ 65535 := by omega
  have HL := Lib.hid hl
  clear w0 w1 f1 f2 hl z0
  have w1 : IntKind.i64.wrap (z : Int) = (z : Int) := IntWalk.i64_in _ (by omega)
  go_enter Try.func5, Try.ntmps5
  go_wp2_with fail
  refine (calive_any _).mono ?_
  rintro _ wb ⟨rfl, b⟩
  replace h := h.belowH b
  by_cases hn : 100 < len0
  · go_wp2
    go_ret
    exact ⟨rfl, b⟩
  go_wp2_with fail
  go_loopw [5] (fun v wr => ∃ k : Nat, k ≤ len0 ∧ v = .int .i64 (k : Int) ∧ Below W.heap.size W wr ∧ Rd wr wr.heap.size 1 a0 len0 (I l)) (fun v _ => len0 - (intOf v).toNat)
  case atStart => exact ⟨0, by omega, rfl, b, h⟩
  case round =>
    clear b h
    obtain ⟨k, hk, rfl, b, h⟩ := hrel
    by_cases hlt : k < len0
    · obtain ⟨bx, ox, x, e1, hbx, hx, c0⟩ := h.atI hlt
      subst e1
      have hk0 : (0 : Int) ≤ (k : Int) := by omega
      have hk1 : (k : Int) < (len0 : Int) := by omega
      obtain ⟨e1, e2⟩ := fair_one (z := z) HL.out hlt hx
      have E1 := Lib.hid e1
      have E2 := Lib.hid e2
      clear e1 e2 hx
      obtain ⟨m, d, hm, w2, w3, w4, hd, hmd⟩ := fair_nums hz (show len0 ≤ 100 by omega) hlt
      have HD := Lib.hid hd
      have HM := Lib.hid hm
      have HM2 := Lib.hid hmd
      clear hd hm hmd hz
      go_wp2_with fail
      refine (cone_at (p := m + k) (x := x) HD.out (by rw [← HM.out]; exact E1.out) E2.out (some ⟨bx, ox, none⟩) len0 cap0 HM2.out _ h (by omega)).mono ?_
      rintro _ wd ⟨rfl, hb⟩
      have c1 := cell_belowC c0 hb hbx
      replace h := h.belowH hb
      replace b := b.trans (hb.mono b.size)
      clear hb c0 hbx
      have t1 : (x != x) = false := by simp
      go_wp2
      go_roundw
      case rel => exact ⟨k + 1, by omega, by go_num, b, h⟩
      case measure => simp [intOf]; omega
    · have hk2 : ¬ (k : Int) < (len0 : Int) := by omega
      go_wp2
      go_ret
      exact ⟨rfl, b⟩
end Go.Proofs.Ytlafmonfhkgcfaa
