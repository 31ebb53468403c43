/- The walk of window's law on bounds. -/
import Derived.Test.YtmhlhhfolbeifaaNAlive
import Derived.Test.YtmhlhhfolbeifaaNMath2
import Derived.Test.YtmhlhhfolbeifaaNRows
namespace Go.Proofs.Ytmhlhhfolbeifaa
set_option linter.unusedVariables false
set_option linter.unusedSimpArgs false
open Go.RowKit

/-- a slice of small numbers that came in: the one at k -/
theorem Rd.atK {k : IntKind} {w : World} {B n : Nat} {A : Option Addr} {l : List Int} (h : Rd w B 1 A n (l.map (Value.int k))) {j : Nat} (hj : j < n) :
    ∃ b o x, A = some ⟨b, o, none⟩ ∧ b < B ∧ l[j]? = some x ∧ w.cell? ⟨b, o + j, none⟩ = some (.int k x) := by
  obtain ⟨b, o, e, hb, hc⟩ := h.at1 hj
  have hl : j < l.length := by have := h.len1; rw [List.length_map] at this; omega
  refine ⟨b, o, l[j], e, hb, List.getElem?_eq_getElem hl, ?_⟩
  rw [hc j hj]; simp [List.getElem?_eq_getElem hl]

set_option maxHeartbeats 8000000 in
set_option maxRecDepth 100000 in
theorem law_WindowBounds (a0 : Option Addr) (len0 cap0 : Nat) (z0 : List Int) (a1 : Int) (W : World) (w0 : Row .u16 W a0 len0 cap0 z0) (w1 : (Lit.int .u16 a1).wf = true) :
    Calls Try.prog 4 #[.slice a0 len0 cap0, .int .u16 a1] W fun e w' => e = .returned (.bool true) ∧ Below W.heap.size W w' := by
  obtain ⟨hl, RW, hwf⟩ := w0.rd
  have hc := w0.cap_
  have b1 := wf_bounds_u16 w1
  generalize hzl : z0.take len0 = l at *
  have HL := Lib.hid hl
  have HW := Lib.hid hwf
  clear hl hwf w0 w1 hzl
  have b := Below.refl W.heap.size W
  by_cases hn : 200 < len0
  · go_enter Try.func4, Try.ntmps4
    go_wp2_with fail
    refine (nalive_any _).mono ?_
    rintro e w3 ⟨rfl, hb⟩
    go_wp2
    go_ret
    exact ⟨rfl, hb⟩
  · obtain ⟨high, hhigh⟩ : ∃ h, max 1 a1 = h := ⟨_, rfl⟩
    have hhb : 1 ≤ high ∧ high ≤ 65535 := by omega
    have HH := Lib.hid hhigh.symm
    go_enter Try.func4, Try.ntmps4
    go_wp2_with fail
    refine (nalive_any _).mono ?_
    rintro e w3 ⟨rfl, hb⟩
    replace b := b.trans (hb.mono b.size)
    clear hb
    go_wp2_with fail
    refine (nnew_any _).mono ?_
    rintro e w4 ⟨⟨A0, n0, c0, rfl, R0⟩, hb⟩
    replace b := b.trans (hb.mono b.size)
    clear hb
    have X := Box.new w4 #[.int .i64 N.new.last, .slice A0 n0 c0] 24
    have hbw := b.size
    replace R0 := R0.alloc (.cells #[.int .i64 N.new.last, .slice A0 n0 c0] 24)
    replace b := b.alloc b.size (.cells #[.int .i64 N.new.last, .slice A0 n0 c0] 24)
    go_wp2
    generalize w4.alloc (.cells #[.int .i64 N.new.last, .slice A0 n0 c0] 24) = w5 at *
    generalize w4.heap.size = bw at *
    go_loopw [6, 8] (fun t i wr => ∃ (k : Nat) (x : Wi) (A : Option Addr) (n c : Nat) (now : Int), k ≤ len0 ∧ t = .int .i64 now ∧ i = .int .i64 k ∧ N.Inv x k now high ∧ 0 ≤ now ∧ now ≤ k * 65535 ∧ Box wr bw 24 #[.int .i64 x.last, .slice A n c] ∧ WRd wr ⟨x, A, n, c⟩ ∧ Below W.heap.size W wr) (fun _ i _ => len0 - (intOf i).toNat)
    case atStart => exact ⟨0, N.new, A0, n0, c0, 0, by omega, rfl, rfl, N.Inv.new, by omega, by omega, X, R0, b⟩
    case round =>
      clear X R0 b
      obtain ⟨k, x, A, n, c, now, hk, rfl, rfl, hinv, hnow0, hnow1, X, Rx, b⟩ := hrel
      have hxn : n ≤ 16 := wv_le Rx hinv.right.2.2.1
      by_cases hlt : k < len0
      · obtain ⟨bk, ok, s, rfl, hbk, hs, hcell⟩ := (RW.belowH b).atK hlt
        have hsb := wf_bounds_u16 (HW.out s (List.mem_of_getElem? hs))
        have hk0 : (0 : Int) ≤ (k : Int) := by omega
        have hnb : now + s ≤ 1099511627776 := by omega
        have hmay := hinv.may hnow0 hsb.1 hnb
        have hnext := hinv.next (most := a1) hnow0 hsb.1 hnb HH.out
        have harr := arr_yes (most := a1) hmay
        obtain ⟨y, hy⟩ : ∃ y, N.next x (now + s) a1 = y := ⟨_, rfl⟩
        rw [hy] at hnext harr
        have HY := Lib.hid hnext
        have HARR := Lib.hid harr
        have hrb := rightB_yes hnext.right
        have HRB := Lib.hid hrb
        have hmean := hnext.mean HH.out
        obtain ⟨m, hm⟩ : ∃ m, N.mean y a1 = m := ⟨_, rfl⟩
        rw [hm] at hmean
        have HM := Lib.hid hm
        have hlast : y.last = now + s := by rw [hnext.last, if_neg (by omega)]
        clear hs hmay hnext harr hrb hy hm hinv
        obtain ⟨yl, yg⟩ := y
        obtain rfl : yl = now + s := hlast
        (try clear hlast)
        have x0 := X.at 0 rfl
        have x1 := X.at 1 rfl
        have hXlt := X.lt
        go_wp2_with fail
        refine (narrive_at A n c (now + s) a1 (by omega) (by omega) HARR.out _ Rx (by omega)).mono ?_
        rintro e w6 ⟨⟨A1, n1, c1, rfl, R1, g1⟩, hb⟩
        replace g1 := g1 rfl
        replace X := X.belowH hb
        replace b := b.trans (hb.mono b.size)
        have hws := hb.size
        clear hb x0 x1 Rx hcell
        (try dsimp only)
        have hn1 : n1 = min k 16 := by rw [← wv_len R1, HY.out.len]; rfl
        have HN1 := Lib.hid hn1
        have hn1b : n1 ≤ 16 := by omega
        have d1 : ((n1 : Int) != min (k : Int) 16) = false := bne_eq_false_iff_eq.2 (by omega)
        clear hn1
        have Y := Box.new w6 #[.int .i64 (now + s), .slice A1 n1 c1] 24
        replace X := X.alloc (.cells #[.int .i64 (now + s), .slice A1 n1 c1] 24)
        replace R1 := R1.alloc (.cells #[.int .i64 (now + s), .slice A1 n1 c1] 24)
        replace b := b.alloc b.size (.cells #[.int .i64 (now + s), .slice A1 n1 c1] 24)
        have y0 := Y.at 0 rfl
        have y1 := Y.at 1 rfl
        (try dsimp only)
        go_wp2_with fail
        refine (nright_at A1 n1 c1 HRB.out _ R1).mono ?_
        rintro e w7 ⟨rfl, hb⟩
        replace X := X.belowH hb
        replace Y := Y.belowH hb
        replace R1 := R1.belowH hb
        replace b := b.trans (hb.mono b.size)
        have hws2 := hb.size
        clear hb y0 y1
        have y0 := Y.at 0 rfl
        have y1 := Y.at 1 rfl
        go_wp2
        go_loop [11] (fun i => ∃ j : Nat, j ≤ n1 ∧ i = .int .i64 j) (fun i => n1 - (intOf i).toNat)
        case atStart => exact ⟨0, by omega, rfl⟩
        case round =>
          obtain ⟨j, hj, rfl⟩ := hrel
          by_cases hjn : j < n1
          · obtain ⟨b2, o2, g, rfl, hb2, hg, hgc⟩ := R1.1.atI hjn
            have hgb : 1 ≤ g ∧ g ≤ high := HY.out.gaps g (List.mem_of_getElem? hg)
            have hj0 : (0 : Int) ≤ (j : Int) := by omega
            clear hg
            go_wp2
            go_round
            case rel => exact ⟨j + 1, by omega, by go_num⟩
            case measure => simp [intOf]; omega
          · go_wp2_with fail
            refine (nmean_at A1 n1 c1 a1 HM.out _ R1 (by omega)).mono ?_
            rintro e w8 ⟨rfl, hb⟩
            replace X := X.belowH hb
            replace Y := Y.belowH hb
            replace R1 := R1.belowH hb
            replace b := b.trans (hb.mono b.size)
            clear hb y0 y1
            have y0 := Y.at 0 rfl
            have y1 := Y.at 1 rfl
            have x0 := X.at 0 rfl
            have x1 := X.at 1 rfl
            have xc := X.cold
            go_wp2
            go_roundw
            case rel =>
              exact ⟨k + 1, ⟨now + s, yg⟩, A1, n1, c1, now + s, by omega, rfl, by go_num, HY.out, by omega, by push_cast; omega, X.two, R1.set2 g1 hXlt 0 1 _ _, below_set (below_set b hbw _) hbw _⟩
            case measure => simp [intOf]; omega
      · go_wp2
        go_ret
        exact ⟨rfl, b⟩
end Go.Proofs.Ytmhlhhfolbeifaa
