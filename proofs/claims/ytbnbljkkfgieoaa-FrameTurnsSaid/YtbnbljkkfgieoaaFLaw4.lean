/- The walk of FrameTurns. -/
import Derived.Test.YtbnbljkkfgieoaaFLaw1
import Derived.Test.YtbnbljkkfgieoaaSTM
import Derived.Deep.AppendLies
namespace Go.Proofs.Ytbnbljkkfgieoaa
set_option linter.unusedVariables false
set_option linter.unusedSimpArgs false
open Go.RowKit

theorem bit_at {M k : Nat} (h : M < 4294967296) : bits BinOp.and IntKind.u32 ((M : Int) / 2 ^ k) 1 = ((M / 2 ^ k % 2 : Nat) : Int) := by
  have e : ((M : Int) / 2 ^ k) = ((M / 2 ^ k : Nat) : Int) := by simp
  rw [e, ← Nat.and_one_is_mod]
  exact u32_and_nat (M / 2 ^ k) 1 (Nat.lt_of_le_of_lt (Nat.div_le_self _ _) h) (by omega)
theorem burst_next {W k f : Nat} (h : W < 2 ^ k) : 2 ^ f * W ^^^ 2 ^ (f + k) = 2 ^ f * (W + 2 ^ k) := by
  have e1 : W + 2 ^ k = W ^^^ 2 ^ k := by
    have e2 : 2 ^ k * 1 + W = 2 ^ k * 1 ||| W := Nat.two_pow_add_eq_or_of_lt h 1
    rw [Nat.mul_one] at e2
    rw [Nat.add_comm, e2]
    apply Nat.eq_of_testBit_eq
    intro i
    rw [Nat.testBit_or, Nat.testBit_xor, Nat.testBit_two_pow]
    by_cases hi : k = i
    · subst hi
      have : W.testBit k = false := Nat.testBit_lt_two_pow h
      simp [this]
    · simp [hi]
  have := Nat.shiftLeft_xor_distrib (i := f) (a := W) (b := 2 ^ k)
  simp only [Nat.shiftLeft_eq] at this
  rw [e1, Nat.mul_comm, Nat.pow_add, Nat.mul_comm (2 ^ f) (2 ^ k), ← this, Nat.mul_comm]

set_option maxHeartbeats 3200000 in
set_option maxRecDepth 100000 in
theorem law_FrameTurns (f : Fr) (A : Option Addr) (n c : Nat) (a1 a2 : Int) (w : World) (w0 : FrameIn w f A n c) (w1 : (Lit.int .u16 a1).wf = true) (w2 : (Lit.int .u32 a2).wf = true) :
    Calls Try.prog 6 #[fv f A n c, .int .u16 a1, .int .u32 a2] w fun e w' => e = .returned (.bool true) ∧ Below w.heap.size w w' := by
  obtain ⟨hf, hfc, hfm, hfl⟩ := w0
  have hb1 := wf_bounds_u16 w1
  have hb2 := wf_bounds_u32 w2
  obtain ⟨N, rfl⟩ := Int.eq_ofNat_of_zero_le hb1.1
  obtain ⟨M, rfl⟩ := Int.eq_ofNat_of_zero_le hb2.1
  have hn : n = f.pay.length := by have := hf.len1; rw [U_length] at this; exact this.symm
  have HN := Lib.hid hn
  clear w1 w2 hn
  have b0 : Below w.heap.size w (w.alloc (.cells (fcells f A n c) 24)) := (Below.refl _ _).alloc (Nat.le_refl _) _
  have x0 := Box.new w (fcells f A n c) 24
  simp only [fv]
  go_enter Try.func6, Try.ntmps6
  go_wp2_with fail
  refine (alive_any _).mono ?_
  rintro e u1 ⟨rfl, hb3⟩
  have b1 : Below w.heap.size w u1 := b0.trans (hb3.mono b0.size)
  have x1 := x0.belowH hb3
  obtain ⟨y0, y1, y2, y3⟩ := fbox x1
  go_wp2_with fail
  refine (great_any f A n c _ HN.out).mono ?_
  rintro e u2 ⟨rfl, hb4⟩
  have b2 : Below w.heap.size w u2 := b1.trans (hb4.mono b1.size)
  have x2 := x1.belowH hb4
  clear y0 y1 y2 y3
  obtain ⟨y0, y1, y2, y3⟩ := fbox x2
  rcases hgr : greatB f
  case true => go_wp2; go_ret; exact ⟨rfl, b2⟩
  by_cases h1 : 1000 < n
  · go_wp2; go_ret; exact ⟨rfl, b2⟩
  go_wp2_with fail
  refine (encode_any f A n c _ _ (hf.belowH b2) (Nat.le_refl _)).mono ?_
  rintro e u3 ⟨hcase, hb5⟩
  have b3 : Below w.heap.size w u3 := b2.trans (hb5.mono b2.size)
  have x3 := x2.belowH hb5
  clear y0 y1 y2 y3
  obtain ⟨y0, y1, y2, y3⟩ := fbox x3
  rcases hcase with ⟨hmay, A3, c3, rfl, hown3⟩ | ⟨hno, rfl⟩
  case inr => go_wp2; go_ret; exact ⟨rfl, b3⟩
  have hr3 := Rd.of_own hown3
  have hlen := F.length_enc_le f hmay
  have hsl := S.length_sealed (F.inner f)
  have hl4 : 4 ≤ (F.enc f).length := by unfold F.enc; rw [hsl]; omega
  have hl31 : (F.enc f).length ≤ 31000 := by have := hmay.2.2.2.1; have := hmay.2.2.2.2.2.2; omega
  have hok := S.ok_sealed (F.inner f)
  have hde := F.dec_enc f hmay f.clu
  rw [if_pos rfl] at hde
  have hds := fun C h4 hno => F.dec_sum (l := C) h4 hno f.clu
  have HO : Hid (S.ok (F.enc f)) := Lib.hid hok
  have HD := Lib.hid hde
  clear hok hde hsl hlen hmay hown3 hds
  obtain ⟨L, hL⟩ : ∃ L, L = F.enc f := ⟨_, rfl⟩
  rw [← hL] at hr3 hl4 hl31 HO HD ⊢
  have HL := Lib.hid hL
  clear hL
  obtain ⟨n0, hn0⟩ : ∃ n0, L.length = n0 := ⟨_, rfl⟩
  rw [hn0] at hr3 hl4 hl31 ⊢
  have HN0 := Lib.hid hn0
  clear hn0 hgr
  go_wp2_with (at_builtin; refine app_law0 u8T rfl (.tmp 39) (.tmp 40) rfl u3.heap.size rfl (lit0 u3) rfl (hr3.alloc (Nat.le_refl _) _) (U_one _) (by omega) (by omega) (by simp) ?_; rintro A4 c4 u4 ⟨hown4, hg4, _, _⟩)
  obtain ⟨f0, hf0, hfn⟩ : ∃ f0 : Nat, (N : Int) % (8 * (n0 : Int)) = (f0 : Int) ∧ f0 < 8 * n0 := ⟨N % (8 * n0), by rw [show (8 * (n0 : Int)) = ((8 * n0 : Nat) : Int) by omega]; rfl, Nat.mod_lt _ (by omega)⟩
  rw [List.nil_append] at hown4
  obtain ⟨g, cap, e, hg2, hg3⟩ := hown4.form (by omega)
  obtain ⟨rfl, rfl⟩ : A4 = some ⟨g, 0, none⟩ ∧ c4 = cap := by simpa using e
  have b4 : Below w.heap.size w u4 := below_app (b3.alloc b3.size _) (lit0 u3) hg4 b3.size (by simp)
  have hbu : Below u3.heap.size u3 u4 := below_app ((Below.refl _ _).alloc (Nat.le_refl _) _) (lit0 u3) hg4 (Nat.le_refl _) (by simp)
  have x4 := x3.belowH hbu
  have z3 := x3.lt
  have z4 := x4.lt
  have hgne : g ≠ w.heap.size := by omega
  have hle : u3.heap.size ≤ u4.heap.size := hbu.size
  clear hg4 e y0 y1 y2 y3 hr3 b0 b1 b2 x0 x1 x2
  go_loopw [10, 11] (fun t i wr => ∃ (k W T : Nat) (C : List UInt8), k ≤ 32 ∧ i = .int .i64 k ∧ t = .int .i64 T ∧ T ≤ k ∧ (T = 0 ↔ W = 0) ∧ W < 2 ^ k ∧ C.length = n0 ∧ S.num C = S.num L ^^^ (2 ^ f0 * W) ∧
      wr.ownsRow u3.heap.size 5 1 (.slice (some ⟨g, 0, none⟩) n0 c4) n0 (U C) ∧ Box wr w.heap.size 24 (fcells f A n c) ∧ Below w.heap.size w wr ∧ u3.heap.size ≤ wr.heap.size) (fun _ i _ => 32 - (intOf i).toNat)
  case atStart => exact ⟨0, 0, 0, L, by omega, rfl, rfl, by omega, by simp, by simp, HN0.out, by simp, hown4, x4, b4, hle⟩
  case round =>
    obtain ⟨k, W, T, C, hk, rfl, rfl, hT, hTW, hW, hCl, hCn, hownC, hxC, hbC, hsz⟩ := hrel
    clear hown4 x4 b4 hle
    by_cases hlt : k < 32
    · have hk0 : (0 : Int) ≤ (k : Int) := by omega
      have HT := Lib.hid hTW
      have HW := Lib.hid hW
      have HN := Lib.hid hCn
      have HCL := Lib.hid hCl
      have HF := Lib.hid hf0
      clear hTW hW hCn hCl
      have hM : M < 4294967296 := by omega
      have hbits := bit_at (k := k) hM
      rcases Nat.mod_two_eq_zero_or_one (M / 2 ^ k) with hbit | hbit
      · rw [hbit] at hbits
        have hb0 : bits BinOp.and IntKind.u32 ((M : Int) / 2 ^ k) 1 = 0 := hbits
        clear hbits hbit
        go_wp2
        go_roundw
        case rel => exact ⟨k + 1, W, T, C, by omega, by go_num, rfl, by omega, HT.out, Nat.lt_trans HW.out (Nat.pow_lt_pow_right (by omega) (by omega)), HCL.out, HN.out, hownC, hxC, hbC, hsz⟩
        case measure => simp [intOf]; omega
      · rw [hbit] at hbits
        have hb0 : bits BinOp.and IntKind.u32 ((M : Int) / 2 ^ k) 1 = 1 := hbits
        clear hbits hbit
        by_cases hin : f0 + k < 8 * n0
        · have hin2 : (f0 : Int) + (k : Int) < 8 * (n0 : Int) := by omega
          have hpos : (0 : Int) ≤ (f0 : Int) + (k : Int) := by omega
          have hi0 : (0 : Int) ≤ ((f0 : Int) + (k : Int)) / 8 := by omega
          have hi1 : ((f0 : Int) + (k : Int)) / 8 < (n0 : Int) := by omega
          have hi2 : (((f0 : Int) + (k : Int)) / 8).toNat = (f0 + k) / 8 := by omega
          have hq : (f0 + k) / 8 < C.length := by rw [HCL.out]; omega
          obtain ⟨x, hx⟩ : ∃ x, C[(f0 + k) / 8]? = some x := ⟨C[(f0 + k) / 8]'hq, List.getElem?_eq_getElem _⟩
          have hcell : wr.cell? ⟨g, (f0 + k) / 8, none⟩ = some (.int .u8 (x.toNat : Int)) := by rw [hownC.cellAt _ (by omega), U_get, hx]; rfl
          have hfr := hownC.frozenAt ((f0 + k) / 8)
          have HX := Lib.hid hx
          have HO2 := Lib.hid hownC
          clear hx hownC hq
          go_wp2
          go_roundw
          case rel =>
            have hnt : S.num (S.turn C (f0 + k)) = S.num L ^^^ (2 ^ f0 * (W + 2 ^ k)) := by
              rw [S.num_turn _ _ (by rw [HCL.out]; omega), HN.out, Nat.xor_assoc, burst_next HW.out]
            have hw := HW.out
            have hp : 0 < 2 ^ k := Nat.two_pow_pos k
            rw [turn_bits2 x (f0 + k)]
            refine ⟨k + 1, W + 2 ^ k, T + 1, S.turn C (f0 + k), by omega, by go_num, by go_num, by omega, ⟨fun h => by omega, fun h => by omega⟩, by rw [Nat.pow_succ]; omega, by rw [S.length_turn]; exact HCL.out, hnt, ?_, hxC.other (Ne.symm hgne) _, below_set hbC (by omega) _, by simpa using hsz⟩
            rw [U_turn HX.out]
            exact (HO2.out.stored ((f0 + k) / 8) _).1
          case measure => simp [intOf]; omega
        · have hin2 : ¬ ((f0 : Int) + (k : Int) < 8 * (n0 : Int)) := by omega
          go_wp2
          go_roundw
          case rel => exact ⟨k + 1, W, T, C, by omega, by go_num, rfl, by omega, HT.out, Nat.lt_trans HW.out (Nat.pow_lt_pow_right (by omega) (by omega)), HCL.out, HN.out, hownC, hxC, hbC, hsz⟩
          case measure => simp [intOf]; omega
    · have hk2 : k = 32 := by omega
      subst hk2
      have hrC := Rd.of_own hownC
      have hcC := own_cap hownC
      have hokb := S.ok_burst L C (by rw [hCl, HN0.out]) HO.out (f := f0) (w := W) (by rw [HN0.out]; omega) hW hCn
      have zC := hxC.lt
      obtain ⟨y0, y1, y2, y3⟩ := fbox hxC
      by_cases hW0 : W = 0
      · have hT0 : T = 0 := hTW.2 hW0
        have hCL : C = L := S.num_inj (by rw [hCl, HN0.out]) (by rw [hCn, hW0]; simp)
        subst hT0 hW0 hCL
        have HT := Lib.hid hTW
        clear hTW hCn hCl hW hokb hownC hf0
        go_wp2_with fail
        refine (decode_any C f.clu _ n0 c4 _ _ hrC (Nat.le_refl _) hcC.1 (by omega)).mono ?_
        rw [HD.out]
        rintro e v1 ⟨⟨A5, c5, rfl, hr5, hc5, _⟩, hb5⟩
        have b5 : Below w.heap.size w v1 := hbC.trans (hb5.mono hbC.size)
        simp only [fv]
        go_wp2
        go_ret
        exact ⟨rfl, b5.alloc b5.size _⟩
      · have hT0 : T ≠ 0 := fun h => hW0 (hTW.1 h)
        have hno : ¬ S.ok C := fun h => hW0 (hokb.1 h)
        have hds := F.dec_sum (l := C) (by omega) hno f.clu
        have t1 : ((T : Int) == 0) = false := beq_eq_false_iff_ne.2 (by omega)
        have HDS := Lib.hid hds
        have HT := Lib.hid hT0
        clear hTW hCn hCl hW hokb hownC hf0 hds hno hW0 hT0
        go_wp2_with fail
        refine (decode_any C f.clu _ n0 c4 _ _ hrC (Nat.le_refl _) hcC.1 (by omega)).mono ?_
        rw [HDS.out]
        rintro e v1 ⟨⟨A5, c5, rfl, hr5, hc5, _⟩, hb5⟩
        have b5 : Below w.heap.size w v1 := hbC.trans (hb5.mono hbC.size)
        simp only [fv, F.zero]
        go_wp2
        go_ret
        exact ⟨rfl, b5.alloc b5.size _⟩
end Go.Proofs.Ytbnbljkkfgieoaa
