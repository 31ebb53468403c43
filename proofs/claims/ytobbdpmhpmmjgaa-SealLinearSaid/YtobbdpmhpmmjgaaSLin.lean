/- The walk of SealLinear. -/
import Derived.Test.YtobbdpmhpmmjgaaSLaws
import Derived.Laws.Cover1
import Derived.BigQuiet
namespace Go.Proofs.Ytobbdpmhpmmjgaa
open Go.RowKit

theorem set_next {L : List UInt8} {n k : Nat} {x : UInt8} (h : L[k]? = some x) (hl : L.length = n) : (U (L.take k ++ List.replicate (n - k) 0)).set k (.int .u8 (x.toNat : Int)) = U (L.take (k + 1) ++ List.replicate (n - (k + 1)) 0) := by
  have hk : k < L.length := (List.getElem?_eq_some_iff.1 h).1
  apply List.ext_getElem?
  intro j
  rw [List.getElem?_set, U_get, U_get, U_length, List.length_append, List.length_take, List.length_replicate, take_more h]
  have e : (L.take k).length = k := by rw [List.length_take]; omega
  by_cases hj : k = j
  · subst hj
    rw [if_pos rfl, if_pos (by omega), List.append_assoc, List.getElem?_append_right (by omega), e, Nat.sub_self]
    rfl
  · rw [if_neg hj]
    congr 1
    rcases Nat.lt_or_ge j k with h1 | h1
    · rw [List.getElem?_append_left (by omega), List.append_assoc, List.getElem?_append_left (by omega)]
    · rw [List.getElem?_append_right (by omega), List.append_assoc, List.getElem?_append_right (by omega), e]
      obtain ⟨d, rfl⟩ : ∃ d, j = k + 1 + d := ⟨j - (k + 1), by omega⟩
      rw [show k + 1 + d - k = d + 1 by omega, show n - k = (n - (k + 1)) + 1 by omega, List.replicate_succ]
      rfl
theorem xor_bits (x y z : UInt8) : bits .xor .u8 (bits .xor .u8 (x.toNat : Int) (y.toNat : Int)) (z.toNat : Int) = ((x ^^^ y ^^^ z).toNat : Int) := by
  rw [u8_xor_nat _ _ x.toNat_lt y.toNat_lt, u8_xor_nat _ _ (@Nat.xor_lt_two_pow _ _ 8 x.toNat_lt y.toNat_lt) z.toNat_lt, UInt8.toNat_xor, UInt8.toNat_xor]

set_option maxHeartbeats 1600000 in
set_option maxRecDepth 20000 in
theorem law_SealLinear (a0 : Option Addr) (len0 cap0 : Nat) (z0 : List Int) (a1 : Option Addr) (len1 cap1 : Nat) (z1 : List Int) (a2 : Option Addr) (len2 cap2 : Nat) (z2 : List Int) (w : World) (w0 : Row .u8 w a0 len0 cap0 z0) (w1 : Row .u8 w a1 len1 cap1 z1) (w2 : Row .u8 w a2 len2 cap2 z2) :
    Calls Try.prog 5 #[.slice a0 len0 cap0, .slice a1 len1 cap1, .slice a2 len2 cap2] w fun e w' => e = .returned (.bool true) ∧ Below w.heap.size w w' := by
  obtain ⟨l0, hl0, hr0⟩ := w0.bytes
  obtain ⟨l1, hl1, hr1⟩ := w1.bytes
  obtain ⟨l2, hl2, hr2⟩ := w2.bytes
  have hc0 := w0.cap_
  have hc1 := w1.cap_
  have hc2 := w2.cap_
  have HL0 := Lib.hid hl0
  have HL1 := Lib.hid hl1
  have HL2 := Lib.hid hl2
  clear hl0 hl1 hl2 w0 w1 w2
  obtain ⟨m, hm, hm0, hm1⟩ : ∃ m : Nat, (if len1 < len0 then (len1 : Int) else (len0 : Int)) = (m : Int) ∧ m ≤ len0 ∧ m ≤ len1 := by
    split
    · exact ⟨len1, rfl, by omega, by omega⟩
    · exact ⟨len0, rfl, by omega, by omega⟩
  obtain ⟨n, hn, hn0, hn1⟩ : ∃ n : Nat, (if len2 < m then (len2 : Int) else (m : Int)) = (n : Int) ∧ n ≤ len2 ∧ n ≤ m := by
    split
    · exact ⟨len2, rfl, by omega, by omega⟩
    · exact ⟨m, rfl, by omega, by omega⟩
  by_cases hbig : 1000 < n
  · go_enter Try.func5, Try.ntmps5
    go_wp2_with (go_at_call 7; refine (alive_any _).mono ?_; rintro e w1 ⟨rfl, hb1⟩)
    go_ret
    exact ⟨rfl, hb1⟩
  · go_enter Try.func5, Try.ntmps5
    go_wp2_with (first
      | (go_at_call 7; refine (alive_any _).mono ?_; rintro e w1 ⟨rfl, hb1⟩)
      | (at_make; refine makeN_law u8T rfl rfl _ _ rfl w1.heap.size n rfl rfl rfl rfl (by omega) (by omega) (Nat.le_refl _) ?_; intro w2 hown2 hg2))
    clear hm hn
    have hs1 := hb1.size
    have hb2 : Below w.heap.size w w2 := hb1.grown hg2 hs1 (by simp)
    clear hg2
    go_loopw [9] (fun i wr => ∃ k : Nat, k ≤ n ∧ i = .int .i64 k ∧ wr.ownsRow w1.heap.size 5 1 (.slice (some ⟨w1.heap.size, 0, none⟩) n n) n (U ((S.xor3 l0 l1 l2 n).take k ++ List.replicate (n - k) 0)) ∧ Below w.heap.size w wr) (fun i _ => n - (intOf i).toNat)
    case atStart => exact ⟨0, by omega, rfl, by simpa [U] using hown2, hb2⟩
    case round =>
      obtain ⟨k, hk, rfl, hown3, hb3⟩ := hrel
      clear hown2 hb2
      by_cases hlt : k < n
      · obtain ⟨b0, o0, x0, rfl, hlt0, hx0, hcell0⟩ := (hr0.below hb3).atU (k := k) (by omega)
        obtain ⟨b1, o1, x1, rfl, hlt1, hx1, hcell1⟩ := (hr1.below hb3).atU (k := k) (by omega)
        obtain ⟨b2, o2, x2, rfl, hlt2, hx2, hcell2⟩ := (hr2.below hb3).atU (k := k) (by omega)
        have hfr := hown3.frozenAt k
        have hthere := hown3.cellAt k (by omega)
        have hne0 : w1.heap.size ≠ b0 := by omega
        have hne1 : w1.heap.size ≠ b1 := by omega
        have hne2 : w1.heap.size ≠ b2 := by omega
        have hk0 : (0 : Int) ≤ (k : Int) := by omega
        have hkn : (k : Int) < (n : Int) := by omega
        have hka : (k : Int) < (len0 : Int) := by omega
        have hkb : (k : Int) < (len1 : Int) := by omega
        have hkc : (k : Int) < (len2 : Int) := by omega
        have ex := S.xor3_at hlt hx0 hx1 hx2
        have HEX := Lib.hid ex
        have HO := Lib.hid hown3
        clear ex hown3 hx0 hx1 hx2
        obtain ⟨v, hv⟩ : ∃ v, (U ((S.xor3 l0 l1 l2 n).take k ++ List.replicate (n - k) 0))[k]? = some v := ⟨_, List.getElem?_eq_getElem (by have := HO.out.1; omega)⟩
        rw [hv] at hthere
        clear hv
        go_wp2
        go_region_held3 (fun w' => w'.cell? ⟨b0, o0 + k, none⟩ = some (.int .u8 (x0.toNat : Int)) ∧ w'.cell? ⟨b1, o1 + k, none⟩ = some (.int .u8 (x1.toNat : Int)) ∧ w'.cell? ⟨b2, o2 + k, none⟩ = some (.int .u8 (x2.toNat : Int))) (go_keep) (fail)
        all_goals
          go_wp2
          go_roundw
          case rel =>
            have e8 := (HO.out.stored k (.int .u8 ((x0 ^^^ x1 ^^^ x2).toNat : Int))).1
            rw [set_next HEX.out (by have := S.length_xor3 (a := l0) (b := l1) (c := l2) (n := n) (by have := HL0.out; omega) (by have := HL1.out; omega) (by have := HL2.out; omega); omega)] at e8
            rw [xor_bits x0 x1 x2]
            refine ⟨k + 1, by omega, by go_num, e8, ?_⟩
            exact Below.setCell (p := ⟨w1.heap.size, k, none⟩) hb3.drew hs1 _
          case measure => simp [intOf]; omega
      · have e1 : k = n := by omega
        subst e1
        have hx : (S.xor3 l0 l1 l2 k).length = k := S.length_xor3 (by have := HL0.out; omega) (by have := HL1.out; omega) (by have := HL2.out; omega)
        rw [Nat.sub_self, List.replicate_zero, List.append_nil, List.take_of_length_le (by omega)] at hown3
        have hrx := Rd.of_own hown3
        have hR0 := (hr0.below hb3).take1 (k := k) (by omega)
        have hR1 := (hr1.below hb3).take1 (k := k) (by omega)
        have hR2 := (hr2.below hb3).take1 (k := k) (by omega)
        rw [U_take] at hR0 hR1 hR2
        have hcut0 : ∀ w, (Instr.slice 22 (.slice a0 len0 cap0) none (some (.int .i64 (k : Int))) none).run Try.prog w = .ok (.slice a0 k cap0) w := fun w => run_cut_h u8T w a0 len0 cap0 k k rfl (by omega)
        have hcut1 : ∀ w, (Instr.slice 22 (.slice a1 len1 cap1) none (some (.int .i64 (k : Int))) none).run Try.prog w = .ok (.slice a1 k cap1) w := fun w => run_cut_h u8T w a1 len1 cap1 k k rfl (by omega)
        have hcut2 : ∀ w, (Instr.slice 22 (.slice a2 len2 cap2) none (some (.int .i64 (k : Int))) none).run Try.prog w = .ok (.slice a2 k cap2) w := fun w => run_cut_h u8T w a2 len2 cap2 k k rfl (by omega)
        have hsum := S.sum_xor3 (a := l0) (b := l1) (c := l2) (n := k) (by have := HL0.out; omega) (by have := HL1.out; omega) (by have := HL2.out; omega)
        have hbits : bits .xor .u32 (bits .xor .u32 (S.sum (l0.take k) : Int) (S.sum (l1.take k) : Int)) (S.sum (l2.take k) : Int) = (S.sum (S.xor3 l0 l1 l2 k) : Int) := by
          rw [hsum, u32_xor_nat _ _ (S.sum_lt _) (S.sum_lt _), u32_xor_nat _ _ (@Nat.xor_lt_two_pow _ _ 32 (S.sum_lt _) (S.sum_lt _)) (S.sum_lt _)]
        clear hx hsum hown3
        go_wp2
        go_quiet (first
          | (go_at_call_of 10 (Value.slice (some ⟨w1.heap.size, 0, none⟩) k k); exact Calls.quiet_of_same ((sum_any (some ⟨w1.heap.size, 0, none⟩) k k wr.heap.size (S.xor3 l0 l1 l2 k) _ (by exact hrx) (by omega)).mono fun _ _ h => ⟨h.1, h.2.symm⟩))
          | (go_at_call_of 10 (Value.slice a0 k cap0); exact Calls.quiet_of_same ((sum_any a0 k cap0 w.heap.size (l0.take k) _ (by exact hR0) (by omega)).mono fun _ _ h => ⟨h.1, h.2.symm⟩))
          | (go_at_call_of 10 (Value.slice a1 k cap1); exact Calls.quiet_of_same ((sum_any a1 k cap1 w.heap.size (l1.take k) _ (by exact hR1) (by omega)).mono fun _ _ h => ⟨h.1, h.2.symm⟩))
          | (go_at_call_of 10 (Value.slice a2 k cap2); exact Calls.quiet_of_same ((sum_any a2 k cap2 w.heap.size (l2.take k) _ (by exact hR2) (by omega)).mono fun _ _ h => ⟨h.1, h.2.symm⟩)))
        go_wp2
        go_ret
        exact ⟨rfl, below_drewN hb3 _⟩
end Go.Proofs.Ytobbdpmhpmmjgaa
