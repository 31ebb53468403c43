/- The walks of quill's laws. -/
import Derived.Test.YtgbkbpgcdoenoaaQAlive
import Derived.Test.YtgbkbpgcdoenoaaQMath2
namespace Go.Proofs.Ytgbkbpgcdoenoaa
open Go.RowKit

theorem num1 (x : Int) (w : World) : Calls Try.prog 14 #[.slice none 0 0, .slice (some ⟨w.heap.size, 0, none⟩) 1 1] (w.alloc (.cells #[.int .i64 x] 3)) fun e w' =>
    ∃ A' c', e = .returned (.slice A' (Q.size x) c') ∧ w'.ownsRow w.heap.size 5 1 (.slice A' (Q.size x) c') (Q.size x) (U (Q.ub x)) ∧ Below w.heap.size w w' := by
  refine (num_any none _ 0 0 1 1 _ [] [x] _ (Rd.zero _ (w.heap.size + 1) _ _) (by simp) (Rd.one _ _ _) (by simp) (by omega) (by omega)).mono ?_
  rintro e w1 ⟨A1, c1, rfl, hown1, hbel1⟩
  have e1 : Q.ubs [x] = Q.ub x := by simp [Q.ubs]
  have e2 : 0 + Q.sizes [x] = Q.size x := by simp [Q.sizes]
  rw [e2, e1, List.nil_append] at hown1
  rw [e2]
  exact ⟨A1, c1, rfl, own_mono hown1 (by simp), ((Below.refl _ _).alloc (Nat.le_refl _) _).trans (hbel1.mono (by simp))⟩
theorem num2 (x y : Int) (w : World) : Calls Try.prog 14 #[.slice none 0 0, .slice (some ⟨w.heap.size, 0, none⟩) 2 2] (w.alloc (.cells #[.int .i64 x, .int .i64 y] 3)) fun e w' =>
    ∃ A' c', e = .returned (.slice A' (Q.size x + Q.size y) c') ∧ Below w.heap.size w w' := by
  refine (num_any none _ 0 0 2 2 _ [] [x, y] _ (Rd.zero _ (w.heap.size + 1) _ _) (by simp) (Rd.lit _ _ _ 1 2 rfl) (by simp) (by omega) (by omega)).mono ?_
  rintro e w1 ⟨A1, c1, rfl, hown1, hbel1⟩
  have e2 : 0 + Q.sizes [x, y] = Q.size x + Q.size y := by simp [Q.sizes]
  rw [e2]
  exact ⟨A1, c1, rfl, ((Below.refl _ _).alloc (Nat.le_refl _) _).trans (hbel1.mono (by simp))⟩

theorem law_QuillTakes (a0 : Option Addr) (len0 cap0 : Nat) (z0 : List Int) (a1 : Int) (w : World) (w0 : Row .u8 w a0 len0 cap0 z0) (_w1 : (Lit.int .i64 a1).wf = true) :
    Calls Try.prog 4 #[.slice a0 len0 cap0, .int .i64 a1] w fun e w' => e = .returned (.bool true) ∧ Below w.heap.size w w' := by
  obtain ⟨l, hl, hr⟩ := w0.bytes
  have hc := w0.cap_
  clear w0
  by_cases hbig : 3000 < len0
  · go_enter Try.func4, Try.ntmps4
    go_wp2_with (go_at_call 9; refine (alive_any _).mono ?_; rintro e w1 ⟨rfl, hb1⟩)
    go_ret
    exact ⟨rfl, hb1⟩
  · go_enter Try.func4, Try.ntmps4
    have HL := Lib.hid hl
    clear hl
    go_wp2_with (first
      | (go_at_call 9; refine (alive_any _).mono ?_; rintro e w1 ⟨rfl, hb1⟩)
      | (go_at_call 17; refine (take_any _ _ _ _ l _ (hr.below hb1) hc.1 hc.2).mono ?_; rintro e w' ⟨⟨A1, c1, rfl, hr1, hc1, _⟩, rfl⟩)
      | (go_at_call 18; refine (rtake_any _ _ _ _ l _ (hr.below hb1) hc.1 hc.2).mono ?_; rintro e w' ⟨⟨A2, c2, rfl, hr2, hc2, _⟩, q2, rfl⟩)
      | (go_at_call 19; refine (taketext_any _ _ _ _ l _ _ ((hr.below hb1).drewN _) hc.1 hc.2).mono ?_; rintro e w' ⟨⟨A3, c3, rfl, hr3, hc3, _⟩, q3, rfl⟩)
      | (go_at_call 20; refine (rtaketext_any _ _ _ _ l _ _ ((hr.below hb1).drewN _) hc.1 hc.2).mono ?_; rintro e w' ⟨⟨A4, c4, rfl, hr4, hc4, _⟩, q4, rfl⟩))
    refine (same_any A1 A2 _ _ c1 c2 w1.heap.size w1.heap.size (Q.rest l) (Q.rest l) _ (by exact hr1.more hb1.size) (by exact hr2.more hb1.size)).mono ?_
    rintro e w' ⟨rfl, rfl⟩
    go_wp2_with fail
    refine (same_any A3 A4 _ _ c3 c4 w1.heap.size w1.heap.size (Q.taketext l a1).2.2 (Q.taketext l a1).2.2 _ (by exact hr3.more hb1.size) (by exact hr4.more hb1.size)).mono ?_
    rintro e w' ⟨rfl, rfl⟩
    go_wp2
    go_ret
    exact ⟨rfl, below_drewN hb1 _⟩

theorem law_QuillChain (a0 : Option Addr) (len0 cap0 : Nat) (z0 : List Int) (w : World) (w0 : Row .i64 w a0 len0 cap0 z0) :
    Calls Try.prog 8 #[.slice a0 len0 cap0] w fun e w' => e = .returned (.bool true) ∧ Below w.heap.size w w' := by
  obtain ⟨l, hl, hr⟩ := w0.ints
  have hc := w0.cap_
  clear w0
  by_cases hbig : 200 < len0
  · go_enter Try.func8, Try.ntmps8
    go_wp2_with (go_at_call 9; refine (alive_any _).mono ?_; rintro e w1 ⟨rfl, hb1⟩)
    go_ret
    exact ⟨rfl, hb1⟩
  · have HL := Lib.hid hl
    clear hl
    go_enter Try.func8, Try.ntmps8
    go_wp2_with (first
      | (go_at_call 9; refine (alive_any _).mono ?_; rintro e w1 ⟨rfl, hb1⟩)
      | (go_at_call 14; refine (num_any none _ 0 _ _ _ w.heap.size [] l _ (Rd.zero _ _ _ _) (by simp) (hr.below hb1) hb1.size (by omega) (by omega)).mono ?_; rintro e w2 ⟨A2, c2, rfl, hown2, hbel2⟩))
    have hb2 := hb1.trans (hbel2.mono hb1.size)
    have hcap := own_cap hown2
    have hr2 : Rd w2 w2.heap.size 1 A2 (Q.sizes l) (U (Q.ubs l)) := by have := Rd.of_own hown2; simpa using this
    clear hown2 hb1 hbel2
    go_loop [3, 4] (fun s i => ∃ (k : Nat) (A : Option Addr) (c : Nat), k ≤ len0 ∧ i = .int .i64 k ∧ s = .slice A (Q.sizes (l.drop k)) c ∧ Rd w2 w2.heap.size 1 A (Q.sizes (l.drop k)) (U (Q.ubs (l.drop k))) ∧ Q.sizes (l.drop k) ≤ c ∧ c ≤ 9223372036854775807) (fun _ i => len0 - (intOf i).toNat)
    case atStart => exact ⟨0, A2, c2, by omega, rfl, by simp, by simpa using hr2, by simpa using hcap.1, hcap.2⟩
    case round =>
      obtain ⟨k, A, c, hk, rfl, rfl, hrA, hc1, hc2⟩ := hrel
      by_cases hkn : k < len0
      · obtain ⟨b, o, x, rfl, hb, hx, hcell⟩ := (hr.below hb2).atI hkn
        have hd := drop_more hx
        have HD := Lib.hid hd
        clear hd hx
        have hub : Q.ubs (l.drop k) = Q.ub x ++ Q.ubs (l.drop (k + 1)) := by rw [HD.out]; rfl
        have hsz : Q.sizes (l.drop k) = Q.size x + Q.sizes (l.drop (k + 1)) := by rw [HD.out]; simp [Q.sizes]
        have hlen : (Q.ubs (l.drop (k + 1))).length = Q.sizes (l.drop (k + 1)) := Q.length_ubs _
        have HUB := Lib.hid hub
        have HSZ := Lib.hid hsz
        have HLEN := Lib.hid hlen
        clear hub hsz hlen
        by_cases hm : Q.may x
        · have h0 := hm.1
          have h1 := hm.2
          have e1 : Q.take (Q.ubs (l.drop k)) = (0, x.toNat, Q.size x) := by rw [HUB.out]; exact Q.take_ub hm _
          have e2 : Q.rest (Q.ubs (l.drop k)) = Q.ubs (l.drop (k + 1)) := by rw [HUB.out]; exact Q.rest_ub hm _
          have E1 := Lib.hid e1
          have E2 := Lib.hid e2
          have hx0 : ((x.toNat : Nat) : Int) = x := Int.toNat_of_nonneg h0
          have HX0 := Lib.hid hx0
          have hne : (x != x) = false := by simp
          clear e1 e2 hm hx0
          go_wp2_with (go_at_call 17; refine (take_any _ _ _ _ (Q.ubs (l.drop k)) _ hrA hc1 hc2).mono ?_; rintro e w' ⟨⟨A3, c3, rfl, hr3, hc3, hc4⟩, rfl⟩; rw [E1.out, HX0.out])
          go_round
          case rel =>
            rw [E2.out, HLEN.out] at hr3 hc3
            exact ⟨k + 1, A3, c3, by omega, by go_num, by rw [E2.out, HLEN.out], hr3, hc3, hc4⟩
          case measure => simp [intOf]; omega
        · have e1 : Q.size x = 0 := by simp [Q.size, hm]
          have e2 : Q.ub x = [] := by simp [Q.ub, Q.bytes, hm]
          have es : Q.sizes (l.drop k) = Q.sizes (l.drop (k + 1)) := by rw [HSZ.out, e1, Nat.zero_add]
          have eu : Q.ubs (l.drop k) = Q.ubs (l.drop (k + 1)) := by rw [HUB.out, e2]; rfl
          rw [es, eu] at hrA
          rw [es] at hc1 ⊢
          have hor : x < 0 ∨ 4611686018427387904 < x := by unfold Q.may at hm; omega
          clear e1 e2 es eu hm
          rcases hor with h0 | h0
          all_goals
            go_wp2
            go_round
            case rel => exact ⟨k + 1, A, c, by omega, by go_num, rfl, hrA, hc1, hc2⟩
            case measure => simp [intOf]; omega
      · have e0 : l.drop k = [] := List.drop_of_length_le (by have := HL.out; omega)
        rw [e0]
        clear e0
        go_wp2
        go_ret
        exact ⟨rfl, hb2⟩

set_option maxRecDepth 20000 in
set_option maxHeartbeats 1000000 in
theorem sizes_main (a b : Int) (cut : Int) (w : World) (ha : Q.may a) (hb : Q.may b) (hcut : 0 ≤ cut ∧ cut ≤ 255) :
    Calls Try.prog 7 #[.int .i64 a, .int .i64 b, .int .u8 cut] w fun e w' => e = .returned (.bool true) ∧ Below w.heap.size w w' := by
  obtain ⟨lo, hi, h⟩ : ∃ lo hi, (lo < hi ∧ lo = a ∧ hi = b) ∨ (lo < hi ∧ hi = a ∧ lo = b) ∨ (a = hi ∧ b = hi ∧ lo = hi) := by
    rcases Int.lt_trichotomy a b with h | h | h
    · exact ⟨a, b, .inl ⟨h, rfl, rfl⟩⟩
    · exact ⟨a, a, .inr (.inr ⟨rfl, h.symm, rfl⟩)⟩
    · exact ⟨b, a, .inr (.inl ⟨h, rfl, rfl⟩)⟩
  have mlo : Q.may lo := by unfold Q.may at *; omega
  have mhi : Q.may hi := by unfold Q.may at *; omega
  have l0 := mlo.1
  have l1 := mlo.2
  have h0 := mhi.1
  have h1 := mhi.2
  have hmono := Q.size_mono mlo mhi (by omega)
  have hpos := Q.size_pos mhi
  have hle := Q.size_le hi
  have MHI := Lib.hid mhi
  obtain ⟨c, rfl⟩ := Int.eq_ofNat_of_zero_le hcut.1
  obtain ⟨k, ek⟩ : ∃ k, k = c % Q.size hi := ⟨_, rfl⟩
  have hk : k < Q.size hi := by rw [ek]; exact Nat.mod_lt _ (by omega)
  have hmod : (c : Int) % ((Q.size hi : Nat) : Int) = (k : Int) := by rw [ek]; simp
  have et : Q.take ((Q.ub hi).take k) = (2, 0, 0) := Q.take_cut MHI.out hk
  have er : Q.rest ((Q.ub hi).take k) = [] := by simp [Q.rest, et]
  have ET := Lib.hid et
  have ER := Lib.hid er
  clear ha hb mlo mhi et er ek
  rcases h with ⟨hlt, rfl, rfl⟩ | ⟨hlt, rfl, rfl⟩ | ⟨rfl, rfl, rfl⟩
  all_goals
    go_enter Try.func7, Try.ntmps7
    go_wp2_with (first
      | (go_at_call 9; refine (alive_any _).mono ?_; rintro e w1 ⟨rfl, hb1⟩))
    refine (num1 _ _).mono ?_
    rintro e w2 ⟨A2, c2, rfl, hown2, hb2⟩
    have hcap := own_cap hown2
    have hr2 := (Rd.of_own hown2).take1 (k := k) (Nat.le_of_lt hk)
    rw [U_take] at hr2
    have hb12 := hb1.trans (hb2.mono hb1.size)
    clear hown2 hb1 hb2
    go_wp2_with (first
      | (go_at_call 17; refine (take_any A2 k c2 _ ((Q.ub _).take k) _ hr2 (by omega) hcap.2).mono ?_; rintro e w' ⟨⟨A3, c3, rfl, hr3, hc3, hc4⟩, rfl⟩; rw [ET.out, ER.out])
      | (go_at_call 11; refine (size_any _ _).mono ?_; rintro e w' ⟨rfl, rfl⟩)
      | (go_at_call 14; refine (num2 _ _ _).mono ?_; rintro e w4 ⟨A4, c4, rfl, hb4⟩))
    go_ret
    exact ⟨rfl, hb12.trans (hb4.mono hb12.size)⟩
theorem law_QuillSizes (a0 a1 a2 : Int) (_w0 : (Lit.int .i64 a0).wf = true) (_w1 : (Lit.int .i64 a1).wf = true) (w2 : (Lit.int .u8 a2).wf = true) (w : World) :
    Calls Try.prog 7 #[.int .i64 a0, .int .i64 a1, .int .u8 a2] w fun e w' => e = .returned (.bool true) ∧ Below w.heap.size w w' := by
  have hcut := wf_bounds_u8 w2
  by_cases h : Q.may a0 ∧ Q.may a1
  · exact sizes_main a0 a1 a2 w h.1 h.2 hcut
  · have hs : Q.size (-1) = 0 := by decide
    have hor : a0 < 0 ∨ (0 ≤ a0 ∧ a1 < 0) ∨ (0 ≤ a0 ∧ 0 ≤ a1 ∧ 4611686018427387904 < a0) ∨ (0 ≤ a0 ∧ 0 ≤ a1 ∧ a0 ≤ 4611686018427387904 ∧ 4611686018427387904 < a1) := by unfold Q.may at h; omega
    clear h w2 _w0 _w1
    rcases hor with h | ⟨h, h1⟩ | ⟨h, h1, h2⟩ | ⟨h, h1, h2, h3⟩
    all_goals
      go_enter Try.func7, Try.ntmps7
      go_wp2_with (first
        | (go_at_call 9; refine (alive_any _).mono ?_; rintro e w1 ⟨rfl, hb1⟩)
        | (go_at_call 11; refine (size_any _ _).mono ?_; rintro e w' ⟨rfl, rfl⟩))
      go_ret
      exact ⟨rfl, hb1⟩
end Go.Proofs.Ytgbkbpgcdoenoaa
