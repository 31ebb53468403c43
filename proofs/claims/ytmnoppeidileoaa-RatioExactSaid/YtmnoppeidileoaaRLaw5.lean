/- The walk of ratio's law on exactness. -/
import Derived.Test.YtmnoppeidileoaaRAlive
import Derived.Test.YtmnoppeidileoaaRRows
import Derived.Deep.AppendLies
namespace Go.Proofs.Ytmnoppeidileoaa
set_option linter.unusedVariables false
set_option linter.unusedSimpArgs false
open Go.RowKit

theorem intT : SlT Try.prog 23 3 (.int .i64 0) 1 8 := ⟨Try.underlying23, by kernel_rfl, rfl, by omega⟩
/-- the first k of n are a, the others 0 -/
def filled (a : Int) (n k : Nat) : List Int := List.replicate k a ++ List.replicate (n - k) 0
theorem filled_length {a : Int} {n k : Nat} (h : k ≤ n) : (filled a n k).length = n := by simp [filled]; omega
theorem filled_set {a : Int} {n k : Nat} (h : k < n) : (I (filled a n k)).set k (.int .i64 a) = I (filled a n (k + 1)) := by
  unfold filled I
  rw [show n - k = (n - (k + 1)) + 1 by omega, List.replicate_succ, List.replicate_succ', List.map_append, List.map_cons, List.map_append, List.map_append]
  rw [List.set_append_right _ _ (by simp)]
  simp
theorem filled_all (a : Int) (n : Nat) : filled a n n = List.replicate n a := by simp [filled]
theorem mean_all {a : Int} {n : Nat} (h0 : 0 ≤ a) (h1 : a ≤ 4294967295) (hn : n ≠ 0) : R.mean (List.replicate n a) = a :=
  R.mean_same (by simpa using hn) fun x hx => by
    obtain rfl := List.eq_of_mem_replicate hx
    unfold R.pin
    omega

set_option maxHeartbeats 4000000 in
set_option maxRecDepth 20000 in
theorem law_RatioExact (a0 a1 a2 : Int) (W : World) (w0 : (Lit.int .u32 a0).wf = true) (w1 : (Lit.int .u32 a1).wf = true) (w2 : (Lit.int .u8 a2).wf = true) :
    Calls Try.prog 7 #[.int .u32 a0, .int .u32 a1, .int .u8 a2] W fun e w' => e = .returned (.bool true) ∧ Below W.heap.size W w' := by
  have b0 := in32 w0
  have b1 := in32 w1
  have b2 := wf_bounds_u8 w2
  unfold In32 at b0 b1
  clear w0 w1 w2
  obtain ⟨N, rfl⟩ := Int.eq_ofNat_of_zero_le b2.1
  have k1 : R.mulDiv a0 (a1 + 1) (a1 + 1) = (a0, 0) := R.mulDiv_exact b0.1 (by omega) (by omega)
  have k2 : R.mulDiv (a1 + 1) a0 (a1 + 1) = (a0, 0) := R.mulDiv_exact2 b0.1 (by omega) (by omega)
  have k3 : R.mean (List.replicate (N + 1) a0) = a0 := mean_all b0.1 b0.2 (by omega)
  obtain ⟨p, hp⟩ : ∃ p, a0 * ((N : Int) + 1) = p := ⟨_, rfl⟩
  have hpb : 0 ≤ p ∧ p ≤ 1099511627776 := by
    subst hp
    have h1 := Int.mul_nonneg b0.1 (show 0 ≤ (N : Int) + 1 by omega)
    have h2 := Int.mul_le_mul b0.2 (show (N : Int) + 1 ≤ 256 by omega) (by omega) (by omega)
    omega
  have k4 : R.cmp a0 1 p ((N : Int) + 1) = 0 := by
    unfold R.cmp
    rw [if_neg (by omega), hp, Int.mul_one, if_neg (by omega), if_neg (by omega)]
  have hw : wrap64 p = p := by unfold wrap64; omega
  have K1 := Lib.hid k1
  have K2 := Lib.hid k2
  have K3 := Lib.hid k3
  have K4 := Lib.hid k4
  clear k1 k2 k3 k4
  go_enter Try.func7, Try.ntmps7
  go_wp2_with fail
  refine (ralive_any _).mono ?_
  rintro e w3 ⟨rfl, b⟩
  go_wp2_with fail
  refine (muldiv_b _ _ _ (by omega) (by omega) (by omega) K1.out _).mono ?_
  rintro e w4 ⟨rfl, hb⟩
  replace b := b.trans (hb.mono b.size)
  clear hb
  dsimp only
  go_wp2_with fail
  refine (muldiv_b _ _ _ (by omega) (by omega) (by omega) K2.out _).mono ?_
  rintro e w5 ⟨rfl, hb⟩
  replace b := b.trans (hb.mono b.size)
  clear hb
  dsimp only
  go_wp2_with (at_make; refine makeN_law intT rfl rfl _ _ rfl w5.heap.size (N + 1) rfl rfl (by push_cast; rfl) (by push_cast; rfl) (by omega) (by omega) (Nat.le_refl _) ?_; intro w6 hown hg)
  have hs5 := b.size
  have b6 : Below W.heap.size W w6 := b.grown hg hs5 (by simp)
  clear hg
  have hown0 : w6.ownsRow w5.heap.size 3 1 (.slice (some ⟨w5.heap.size, 0, none⟩) (N + 1) (N + 1)) (N + 1) (I (filled a0 (N + 1) 0)) := by
    simpa [filled, I] using hown
  clear hown b
  generalize hn : N + 1 = n at *
  have hn1 : ((N : Int) + 1) = (n : Int) := by omega
  have hn2 : n ≤ 256 := by omega
  have HN1 := Lib.hid hn1
  have HN := Lib.hid hn
  clear hn hn1
  go_loopw [12] (fun i wr => ∃ k : Nat, k ≤ n ∧ i = .int .i64 k ∧ wr.ownsRow w5.heap.size 3 1 (.slice (some ⟨w5.heap.size, 0, none⟩) n n) n (I (filled a0 n k)) ∧ Below W.heap.size W wr) (fun i _ => n - (intOf i).toNat)
  case atStart => exact ⟨0, by omega, rfl, hown0, b6⟩
  case round =>
    obtain ⟨k, hk, rfl, hown, b⟩ := hrel
    clear hown0 b6
    by_cases hlt : k < n
    · have hfr := hown.frozenAt k
      have hthere := hown.cellAt k (by omega)
      have hk0 : (0 : Int) ≤ (k : Int) := by omega
      have hkn : (k : Int) < (n : Int) := by omega
      have HO := Lib.hid hown
      obtain ⟨v, hv⟩ : ∃ v, (I (filled a0 n k))[k]? = some v := ⟨_, List.getElem?_eq_getElem (by have := HO.out.1; omega)⟩
      rw [hv] at hthere
      clear hown hv
      go_wp2
      go_roundw
      case rel =>
        have e8 := (HO.out.stored k (.int .i64 a0)).1
        rw [filled_set hlt] at e8
        exact ⟨k + 1, by omega, by go_num, e8, Below.setCell (p := ⟨w5.heap.size, k, none⟩) b hs5 _⟩
      case measure => simp [intOf]; omega
    · have e : k = n := by omega
      subst e
      rw [filled_all] at hown
      have hrd := Rd.of_own hown
      clear hown
      go_wp2_with fail
      refine (mean_b _ _ _ _ _ _ hrd (by omega) K3.out).mono ?_
      rintro e w8 ⟨rfl, hb⟩
      replace b := b.trans (hb.mono b.size)
      clear hb hrd
      go_wp2_with fail
      refine (cmp_any _ _ _ _ (by omega) (by omega) (by omega) (by omega) _).mono ?_
      rw [K4.out]
      rintro e w9 ⟨rfl, hb⟩
      replace b := b.trans (hb.mono b.size)
      clear hb
      go_wp2
      go_ret
      exact ⟨rfl, b⟩
end Go.Proofs.Ytmnoppeidileoaa
