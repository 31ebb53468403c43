/- The walk of window's law on what comes at one distance. -/
import Derived.Test.YtmhlhhfolbeifaaNAlive
import Derived.Test.YtmhlhhfolbeifaaNMath2
namespace Go.Proofs.Ytmhlhhfolbeifaa
set_option linter.unusedVariables false
set_option linter.unusedSimpArgs false
open Go.RowKit

set_option maxHeartbeats 8000000 in
set_option maxRecDepth 100000 in
theorem law_WindowSteady (a0 a1 a2 : Int) (W : World) (w0 : (Lit.int .u8 a0).wf = true) (w1 : (Lit.int .u8 a1).wf = true) (w2 : (Lit.int .u8 a2).wf = true) :
    Calls Try.prog 6 #[.int .u8 a0, .int .u8 a1, .int .u8 a2] W fun e w' => e = .returned (.bool true) ∧ Below W.heap.size W w' := by
  have b0 := wf_bounds_u8 w0
  have b1 := wf_bounds_u8 w1
  have b2 := wf_bounds_u8 w2
  clear w0 w1 w2
  have b := Below.refl W.heap.size W
  obtain ⟨K, hK⟩ := Int.eq_ofNat_of_zero_le (show 0 ≤ 2 + a0 % 60 by omega)
  have hKb : 2 ≤ K ∧ K ≤ 61 := by omega
  obtain ⟨G, eG⟩ : ∃ G, max 1 (min a1 a2) = G := ⟨_, rfl⟩
  have hGb : 1 ≤ G ∧ G ≤ 255 := by omega
  have HG := Lib.hid eG
  have HKK := Lib.hid hK
  go_enter Try.func6, Try.ntmps6
  go_wp2_with fail
  refine (nalive_any _).mono ?_
  rintro e w3 ⟨rfl, hb⟩
  replace b := b.trans (hb.mono b.size)
  clear hb
  go_wp2_with fail
  refine (nnew_any _).mono ?_
  rintro e w4 ⟨⟨A0, n0, c0, rfl, R0⟩, hb⟩
  replace b := b.trans (hb.mono b.size)
  clear hb
  have X := Box.new w4 #[.int .i64 N.new.last, .slice A0 n0 c0] 24
  have hbw := b.size
  replace R0 := R0.alloc (.cells #[.int .i64 N.new.last, .slice A0 n0 c0] 24)
  replace b := b.alloc b.size (.cells #[.int .i64 N.new.last, .slice A0 n0 c0] 24)
  go_wp2
  generalize w4.alloc (.cells #[.int .i64 N.new.last, .slice A0 n0 c0] 24) = w5 at *
  generalize w4.heap.size = bw at *
  go_loopw [9] (fun i wr => ∃ (k : Nat) (x : Wi) (A : Option Addr) (n c : Nat) (t : Int), k ≤ K ∧ i = .int .i64 k ∧ (k : Int) * a1 = t ∧ N.Even x k t a1 G ∧ Box wr bw 24 #[.int .i64 x.last, .slice A n c] ∧ WRd wr ⟨x, A, n, c⟩ ∧ Below W.heap.size W wr) (fun i _ => K - (intOf i).toNat)
  case atStart => exact ⟨0, N.new, A0, n0, c0, 0, by omega, rfl, by simp, N.Even.new, X, R0, b⟩
  case round =>
    clear X R0 b
    obtain ⟨k, x, A, n, c, t, hk, rfl, ht, hev, X, Rx, b⟩ := hrel
    have hxn : n ≤ 16 := wv_le Rx hev.right.2.2.1
    have x0 := X.at 0 rfl
    have x1 := X.at 1 rfl
    by_cases hlt : k < K
    · have ht0 : 0 ≤ t := by rw [← ht]; exact Int.mul_nonneg (by omega) b1.1
      have htb : t ≤ 15555 := by
        rw [← ht]
        have := Int.mul_le_mul (show (k : Int) ≤ 61 by omega) b1.2 b1.1 (by omega)
        omega
      have hge : k ≠ 0 → a1 ≤ t := fun h => by
        rw [← ht]
        have := Int.mul_le_mul_of_nonneg_right (show (1 : Int) ≤ k by omega) b1.1
        omega
      have hmay := hev.may ht0 b1.1 (by omega)
      have hnext := hev.next ht0 b1.1 (by omega) hge HG.out
      have harr := arr_yes (most := a2) hmay
      have ht2 : ((k + 1 : Nat) : Int) * a1 = t + a1 := by rw [← ht]; push_cast; rw [Int.add_mul, Int.one_mul]
      have HT2 := Lib.hid ht2
      obtain ⟨y, hy⟩ : ∃ y, N.next x t a2 = y := ⟨_, rfl⟩
      rw [hy] at hnext harr
      have HY := Lib.hid hnext
      have HARR := Lib.hid harr
      have hw : IntKind.i64.wrap t = t := IntWalk.i64_in _ (by omega)
      have hw2 : wrap64 t = t := wrap64_in ht0 (by omega)
      clear hmay hnext harr hy hev ht2 hge
      have hXlt := X.lt
      go_wp2_with fail
      refine (narrive_at A n c t a2 (by omega) (by omega) HARR.out _ Rx (by omega)).mono ?_
      rintro e w6 ⟨⟨A1, n1, c1, rfl, R1, g1⟩, hb⟩
      replace g1 := g1 rfl
      replace X := X.belowH hb
      replace b := b.trans (hb.mono b.size)
      have hws := hb.size
      clear hb x0 x1 Rx
      have Y := Box.new w6 #[.int .i64 y.last, .slice A1 n1 c1] 24
      replace X := X.alloc (.cells #[.int .i64 y.last, .slice A1 n1 c1] 24)
      replace R1 := R1.alloc (.cells #[.int .i64 y.last, .slice A1 n1 c1] 24)
      replace b := b.alloc b.size (.cells #[.int .i64 y.last, .slice A1 n1 c1] 24)
      have y0 := Y.at 0 rfl
      have y1 := Y.at 1 rfl
      have x0 := X.at 0 rfl
      have x1 := X.at 1 rfl
      have xc := X.cold
      (try dsimp only)
      go_wp2
      go_roundw
      case rel =>
        exact ⟨k + 1, y, A1, n1, c1, t + a1, by omega, by go_num, HT2.out, HY.out, X.two, R1.set2 g1 hXlt 0 1 _ _, below_set (below_set b hbw _) hbw _⟩
      case measure => simp [intOf]; omega
    · have e : k = K := by omega
      subst e
      have hlen := hev.len
      have hn : n = min (k - 1) 16 := by rw [← wv_len Rx]; exact hlen
      have hl0 : x.gaps.length ≠ 0 := by rw [hlen]; omega
      have hm : N.mean x 999 = G := by
        unfold N.mean
        rw [if_neg hl0]
        exact N.steady_mean hl0 hev.gaps (by omega) (by omega)
      have HM := Lib.hid hm
      have d1 : ((n : Int) == min ((k : Int) - 1) 16) = true := beq_iff_eq.2 (by omega)
      clear hn hlen hm hl0 hev ht
      go_wp2_with fail
      refine (nmean_at A n c 999 HM.out _ Rx (by omega)).mono ?_
      rintro e w8 ⟨rfl, hb⟩
      replace X := X.belowH hb
      replace b := b.trans (hb.mono b.size)
      clear hb x0 x1
      have x0 := X.at 0 rfl
      have x1 := X.at 1 rfl
      go_wp2
      go_ret
      exact ⟨by simp, b⟩
end Go.Proofs.Ytmhlhhfolbeifaa
