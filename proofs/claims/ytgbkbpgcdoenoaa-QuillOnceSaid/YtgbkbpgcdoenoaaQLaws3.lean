/- The walk of quill's law QuillOnce: a number that is taken has just those bytes. -/
import Derived.Test.YtgbkbpgcdoenoaaQLaws2
import Derived.Deep.RegionHeld3
namespace Go.Proofs.Ytgbkbpgcdoenoaa
open Go.RowKit

set_option maxRecDepth 20000 in
set_option maxHeartbeats 1000000 in
theorem law_QuillOnce (a0 : Option Addr) (len0 cap0 : Nat) (z0 : List Int) (w : World) (w0 : Row .u8 w a0 len0 cap0 z0) :
    Calls Try.prog 6 #[.slice a0 len0 cap0] w fun e w' => e = .returned (.bool true) ∧ Below w.heap.size w w' := by
  obtain ⟨l, hl, hr⟩ := w0.bytes
  have hc := w0.cap_
  clear w0
  have HL := Lib.hid hl
  clear hl
  by_cases hbig : 3000 < len0
  · go_enter Try.func6, Try.ntmps6
    go_wp2_with (go_at_call 9; refine (alive_any _).mono ?_; rintro e w1 ⟨rfl, hb1⟩)
    go_ret
    exact ⟨rfl, hb1⟩
  by_cases he : (Q.take l).1 = 0
  · obtain ⟨N, k, et⟩ : ∃ N k, Q.take l = (0, N, k) := ⟨(Q.take l).2.1, (Q.take l).2.2, by rw [← he]⟩
    obtain ⟨hm, hsz, h1, h2, h3, hub⟩ := Q.take_once et
    rw [HL.out] at h3
    have er : Q.rest l = l.drop k := by simp [Q.rest, et]
    have hlr : (Q.rest l).length = len0 - k := by rw [er, List.length_drop, HL.out]
    have ET := Lib.hid et
    have ER := Lib.hid er
    have HLR := Lib.hid hlr
    have HUB := Lib.hid hub
    have HSZ := Lib.hid hsz
    have hcast : ((len0 - k : Nat) : Int) = (len0 : Int) - k := by omega
    have HC := Lib.hid hcast
    have hk : (len0 : Int) - ((len0 - k : Nat) : Int) = (k : Int) := by omega
    clear et er hlr hub hsz hm he hcast
    have hd1 : decide ((1 : Int) ≤ (k : Int)) = true := by simp; omega
    have hd2 : decide ((k : Int) ≤ 9) = true := by simp; omega
    go_enter Try.func6, Try.ntmps6
    go_wp2_with (first
      | (go_at_call 9; refine (alive_any _).mono ?_; rintro e w1 ⟨rfl, hb1⟩)
      | (go_at_call 17; refine (take_any _ _ _ _ l _ (hr.below hb1) hc.1 hc.2).mono ?_; rintro e w' ⟨⟨A1, c1, rfl, hr1, hc1, _⟩, rfl⟩; rw [ET.out, HLR.out]; rw [HLR.out] at hr1 hc1))
    have hk0 : (0 : Int) ≤ (k : Int) := by omega
    have hkc : (k : Int) ≤ (cap0 : Int) := by omega
    have hkl : (k : Int) ≤ (len0 : Int) := by omega
    have e1 : Q.ubs [(N : Int)] = Q.ub N := by simp [Q.ubs]
    have e2 : 0 + Q.sizes [(N : Int)] = k := by rw [Q.sizes, List.map_cons, List.map_nil, List.sum_cons, List.sum_nil, HSZ.out]; omega
    have E1 := Lib.hid e1
    have E2 := Lib.hid e2
    clear hk HC e1 e2
    by_cases hck : cap0 = k
    · have hck2 := hck.symm
      subst hck2
      go_region_held3 (fun _ => True) (trivial)
        (first
        | (go_at_call 14; refine (num_any none _ 0 0 1 1 (w1.heap.size + 1) [] [(N : Int)] _ (Rd.zero _ _ _ _) (by simp) (by exact Rd.one w1 _ _) (by simp) (by omega) (by omega)).mono ?_; rintro e w2 ⟨A2, c2, rfl, hown2, hb2⟩; rw [E2.out, E1.out] at hown2; rw [E2.out])
        | (go_at_call_of 13 (Value.slice A2 k c2); refine (same_any A2 a0 k k c2 _ w2.heap.size w2.heap.size (l.take k) (l.take k) _ (by rw [← HUB.out]; have := Rd.of_own hown2; simpa using this) (by rw [← U_take]; exact (Rd.pastD hr hb1 hb2).take1 (by omega))).mono ?_; rintro e w' ⟨rfl, rfl⟩)
        | (go_at_call 13; refine (same_any _ A1 0 0 _ c1 w2.heap.size w2.heap.size [] [] _ (Rd.zero _ _ _ _) (Rd.zero _ _ _ _)).mono ?_; rintro e w' ⟨rfl, rfl⟩))
      all_goals
        go_wp2
        go_ret
        exact ⟨rfl, below_pastD hb1 hb1.size hb2⟩
    · go_region_held3 (fun _ => True) (trivial)
        (first
        | (go_at_call 14; refine (num_any none _ 0 0 1 1 (w1.heap.size + 1) [] [(N : Int)] _ (Rd.zero _ _ _ _) (by simp) (by exact Rd.one w1 _ _) (by simp) (by omega) (by omega)).mono ?_; rintro e w2 ⟨A2, c2, rfl, hown2, hb2⟩; rw [E2.out, E1.out] at hown2; rw [E2.out])
        | (go_at_call_of 13 (Value.slice A2 k c2); refine (same_any A2 a0 k k c2 _ w2.heap.size w2.heap.size (l.take k) (l.take k) _ (by rw [← HUB.out]; have := Rd.of_own hown2; simpa using this) (by rw [← U_take]; exact (Rd.pastD hr hb1 hb2).take1 (by omega))).mono ?_; rintro e w' ⟨rfl, rfl⟩)
        | (go_at_call 13; refine (same_any _ A1 (len0 - k) (len0 - k) _ c1 w2.heap.size w2.heap.size (l.drop k) (l.drop k) _ (by have h5 := (Rd.pastD hr hb1 hb2).cut1 (k := k) (cap := cap0) (by omega) hc.1; rw [U_drop] at h5; simpa [cutA, hck] using h5) (by rw [← ER.out]; exact Rd.pastD (hr1.more hb1.size) (Below.refl _ _) hb2)).mono ?_; rintro e w' ⟨rfl, rfl⟩))
      all_goals
        go_wp2
        go_ret
        exact ⟨rfl, below_pastD hb1 hb1.size hb2⟩
  · have h1 : (((Q.take l).1 : Nat) : Int) ≠ 0 := by omega
    have hb : ((((Q.take l).1 : Nat) : Int) != 0) = true := by rw [bne_iff_ne]; exact h1
    have et := Q.take_err he
    have e1 := et.1
    have e2 := et.2
    clear et he h1
    go_enter Try.func6, Try.ntmps6
    go_wp2_with (first
      | (go_at_call 9; refine (alive_any _).mono ?_; rintro e w1 ⟨rfl, hb1⟩)
      | (go_at_call 17; refine (take_any _ _ _ _ l _ (hr.below hb1) hc.1 hc.2).mono ?_; rintro e w' ⟨⟨A1, c1, rfl, hr1, hc1, _⟩, rfl⟩; rw [e1, e2]))
    go_ret
    exact ⟨rfl, hb1⟩
end Go.Proofs.Ytgbkbpgcdoenoaa
