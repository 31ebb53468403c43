/- The walk of phi's law on calm. -/
import Derived.Test.YtlnhdakafidhiaaPLaw3
import Derived.Test.YtlnhdakafidhiaaNMath2
import Derived.Test.YtlnhdakafidhiaaNRows
namespace Go.Proofs.Ytlnhdakafidhiaa
set_option linter.unusedVariables false
set_option linter.unusedSimpArgs false
open Go.RowKit
theorem calm_in {x : Wi} {now most th m W1 : Int} (hr : N.right x) (hl : x.last = now) (h0 : 0 ≤ now) (hm : N.mean x 1 = m) (hmb : m ≤ 1000) (hp : 1 ≤ most) (hp2 : most ≤ 255) (hn : now ≤ 51000) (ht : 0 ≤ th) (ht2 : th ≤ 65535) (e : (th + 1) * m = W1) (hlt : 434 * most < W1) :
    Ph.susp x (now + most) 1 th = false ∧ most < Ph.bound th m := by
  have hmp : 1 ≤ m := by rw [← hm]; exact Ph.mean_pos _ _
  constructor
  · rw [susp_at (m := m) ⟨hr, by omega, by omega, by omega⟩ (by omega) hm]
    exact decide_eq_false (by rw [e, hl, show now + most - now = most by omega]; omega)
  · have hok : ¬ Ph.bad th m := by unfold Ph.bad; omega
    have h1 := Ph.bound_ok hok
    rw [e] at h1
    have h2 := (Ph.cnt_lt W1 most).2 hlt
    omega

set_option maxHeartbeats 8000000 in
set_option maxRecDepth 100000 in
theorem law_PhiCalm (a0 : Option Addr) (len0 cap0 : Nat) (z0 : List Int) (a1 : Int) (W : World) (w0 : Row .u8 W a0 len0 cap0 z0) (w1 : (Lit.int .u16 a1).wf = true) :
    Calls Try.prog 6 #[.slice a0 len0 cap0, .int .u16 a1] W fun e w' => e = .returned (.bool true) ∧ Below W.heap.size W w' := by
  obtain ⟨l, hl, RW⟩ := w0.bytes
  have hc := w0.cap_
  have b1 := wf_bounds_u16 w1
  clear w0 w1
  have HL := Lib.hid hl
  clear hl
  have b := Below.refl W.heap.size W
  by_cases hn : 200 < len0
  · go_enter Try.func6, Try.ntmps6
    go_wp2_with fail
    refine (palive_any _).mono ?_
    rintro e w3 ⟨rfl, hb⟩
    go_wp2
    go_ret
    exact ⟨rfl, hb⟩
  by_cases hn2 : len0 < 16
  · go_enter Try.func6, Try.ntmps6
    go_wp2_with fail
    refine (palive_any _).mono ?_
    rintro e w3 ⟨rfl, hb⟩
    go_wp2
    go_ret
    exact ⟨rfl, hb⟩
  go_enter Try.func6, Try.ntmps6
  go_wp2_with fail
  refine (palive_any _).mono ?_
  rintro e w3 ⟨rfl, hb⟩
  replace b := b.trans (hb.mono b.size)
  clear hb
  go_wp2_with fail
  refine (rnnew_any _).mono ?_
  rintro e w4 ⟨⟨A0, n0, c0, rfl, R0⟩, hb⟩
  replace b := b.trans (hb.mono b.size)
  clear hb
  have X := Box.new w4 #[.int .i64 N.new.last, .slice A0 n0 c0] 24
  have hbw := b.size
  replace R0 := R0.alloc (.cells #[.int .i64 N.new.last, .slice A0 n0 c0] 24)
  replace b := b.alloc b.size (.cells #[.int .i64 N.new.last, .slice A0 n0 c0] 24)
  go_wp2
  generalize w4.alloc (.cells #[.int .i64 N.new.last, .slice A0 n0 c0] 24) = w5 at *
  generalize w4.heap.size = bw at *
  go_loopw [6, 7, 8] (fun t g i wr => ∃ (k : Nat) (x : Wi) (A : Option Addr) (n c : Nat) (now most : Int), k ≤ len0 ∧ t = .int .i64 now ∧ g = .int .i64 most ∧ i = .int .i64 k ∧ N.Inv x k now 1000 ∧ 0 ≤ now ∧ now ≤ k * 255 ∧ 1 ≤ most ∧ most ≤ 255 ∧ Box wr bw 24 #[.int .i64 x.last, .slice A n c] ∧ WRd wr ⟨x, A, n, c⟩ ∧ Below W.heap.size W wr) (fun _ _ i _ => len0 - (intOf i).toNat)
  case atStart => exact ⟨0, N.new, A0, n0, c0, 0, 1, by omega, rfl, rfl, rfl, N.Inv.new, by omega, by omega, by omega, by omega, X, R0, b⟩
  case round =>
    clear X R0 b
    obtain ⟨k, x, A, n, c, now, most, hk, rfl, rfl, rfl, hinv, hnow0, hnow1, hm1, hm2, X, Rx, b⟩ := hrel
    have hxn : n ≤ 16 := wv_le Rx hinv.right.2.2.1
    have x0 := X.at 0 rfl
    have x1 := X.at 1 rfl
    by_cases hlt : k < len0
    · obtain ⟨bk, ok, s, rfl, hbk, hs, hcell⟩ := (RW.belowH b).atU hlt
      have hsb := s.toNat_lt
      have hk0 : (0 : Int) ≤ (k : Int) := by omega
      obtain ⟨si, hsi⟩ : ∃ si : Int, (s.toNat : Int) = si := ⟨_, rfl⟩
      rw [hsi] at hcell
      obtain ⟨d, hd⟩ : ∃ d, max 1 si = d := ⟨_, rfl⟩
      obtain ⟨most', hmo⟩ : ∃ d, max most si = d := ⟨_, rfl⟩
      have hsi2 : 0 ≤ si ∧ si ≤ 255 := by omega
      have hdb : 1 ≤ d ∧ d ≤ 255 := by omega
      have hmb : 1 ≤ most' ∧ most' ≤ 255 := by omega
      have hmay := hinv.may hnow0 (show 0 ≤ d by omega) (by omega)
      have hnext := hinv.next (most := 1000) hnow0 (show 0 ≤ d by omega) (by omega) (show (1000 : Int) = max 1 1000 by omega)
      have harr := arr_yes (most := 1000) hmay
      obtain ⟨y, hy⟩ : ∃ y, N.next x (now + d) 1000 = y := ⟨_, rfl⟩
      rw [hy] at hnext harr
      have HY := Lib.hid hnext
      have HARR := Lib.hid harr
      have hXlt := X.lt
      clear hs hmay hnext harr hy hinv hsi
      go_wp2_with fail
      refine (rnarrive_at A n c (now + d) 1000 (by omega) (by omega) HARR.out _ Rx).mono ?_
      rintro e w6 ⟨⟨A1, n1, c1, rfl, R1, g1⟩, hb⟩
      replace g1 := g1 rfl
      replace X := X.belowH hb
      replace b := b.trans (hb.mono b.size)
      clear hb x0 x1 Rx hcell
      have x0 := X.at 0 rfl
      have x1 := X.at 1 rfl
      have xk := X.cold
      (try dsimp only)
      go_wp2
      go_roundw
      case rel => exact ⟨k + 1, y, A1, n1, c1, now + d, most', by omega, rfl, rfl, by go_num, HY.out, by omega, by push_cast; omega, by omega, by omega, X.two, R1.set2 g1 hXlt 0 1 _ _, below_set (below_set b hbw _) hbw _⟩
      case measure => simp [intOf]; omega
    · have e : k = len0 := by omega
      subst e
      have hlast : x.last = now := by rw [hinv.last, if_neg (by omega)]
      have hg0 : x.gaps.length ≠ 0 := by rw [hinv.len]; omega
      obtain ⟨m, hm⟩ : ∃ m, N.mean x 1 = m := ⟨_, rfl⟩
      have hmm := hinv.mean (most := 1000) (show (1000 : Int) = max 1 1000 by omega)
      rw [N.mean_boot hg0 1000 1, hm] at hmm
      obtain ⟨W1, hW⟩ : ∃ t, (a1 + 1) * m = t := ⟨_, rfl⟩
      have hWb : 0 ≤ W1 ∧ W1 ≤ 65536000 := by
        rw [← hW]
        have h1 := Int.mul_nonneg (show 0 ≤ a1 + 1 by omega) (show 0 ≤ m by omega)
        have h2 := Int.mul_le_mul (show a1 + 1 ≤ 65536 by omega) hmm.2 (by omega) (by omega)
        omega
      have e5 : IntKind.i64.wrap W1 = W1 := IntWalk.i64_in _ (by omega)
      have e6 : wrap64 W1 = W1 := wrap64_in (by omega) (by omega)
      have hnb : now ≤ 51000 := by omega
      have HM := Lib.hid hm
      have HR := Lib.hid hinv.right
      have HLA := Lib.hid hlast
      have HW := Lib.hid hW
      clear hlast hg0 hm hinv
      by_cases hcalm : 434 * most < W1
      · obtain ⟨q1, q2⟩ := calm_in HR.out HLA.out hnow0 HM.out hmm.2 hm1 hm2 hnb b1.1 b1.2 HW.out hcalm
        obtain ⟨bd, hbd⟩ : ∃ t, Ph.bound a1 m = t := ⟨_, rfl⟩
        rw [hbd] at q2
        have HQ1 := Lib.hid q1
        have HBD := Lib.hid hbd
        clear q1 hbd
        go_wp2_with fail
        refine (rnmean_at A n c 1 HM.out _ Rx (by omega)).mono ?_
        rintro e w8 ⟨rfl, hb⟩
        replace X := X.belowH hb
        replace Rx := Rx.belowH hb
        replace b := b.trans (hb.mono b.size)
        clear hb x0 x1
        have x0 := X.at 0 rfl
        have x1 := X.at 1 rfl
        go_wp2_with fail
        refine (suspect_at A n c (now + most) 1 a1 (i64_of (by omega)) (i64_of (by omega)) (i64_of (by omega)) HQ1.out _ Rx (by omega)).mono ?_
        rintro e w9 ⟨rfl, hb⟩
        replace b := b.trans (hb.mono b.size)
        clear hb x0 x1
        go_wp2_with fail
        refine (bound_at a1 m (i64_of (by omega)) (i64_of (by omega)) HBD.out _).mono ?_
        rintro e w10 ⟨rfl, hb⟩
        replace b := b.trans (hb.mono b.size)
        clear hb
        go_wp2
        go_ret
        exact ⟨by first | rfl | simp, b⟩
      · go_wp2_with fail
        refine (rnmean_at A n c 1 HM.out _ Rx (by omega)).mono ?_
        rintro e w8 ⟨rfl, hb⟩
        replace b := b.trans (hb.mono b.size)
        clear hb x0 x1
        go_wp2
        go_ret
        exact ⟨rfl, b⟩
end Go.Proofs.Ytlnhdakafidhiaa
