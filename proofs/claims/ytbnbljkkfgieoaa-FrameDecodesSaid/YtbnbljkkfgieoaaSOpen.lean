/- layer 2's Seal and Open, and their references. -/
import Derived.Test.YtbnbljkkfgieoaaSSeal
import Derived.Test.YtbnbljkkfgieoaaSCode
namespace Go.Proofs.Ytbnbljkkfgieoaa
open Go.RowKit

theorem four_at (s : Nat) {k : Nat} (hk : k < 4) : (S.four s)[k]? = some (UInt8.ofNat (s / 256 ^ k)) := by
  rcases k with _ | _ | _ | _ | k
  · simp [S.four]
  · simp [S.four]
  · simp [S.four]
  · simp [S.four]
  · omega

theorem U_mod (y : Nat) : U [UInt8.ofNat y] = [.int .u8 ((y : Int) % 256)] := by
  simp [U, UInt8.toNat_ofNat']

set_option maxHeartbeats 800000 in
set_option maxRecDepth 20000 in
theorem rseal_any (A : Option Addr) (n c B : Nat) (l : List UInt8) (w : World) (h : Rd w B 1 A n (U l)) (hB : B ≤ w.heap.size) (hn : n ≤ 35184372088832) :
    Calls Try.prog 23 #[.slice A n c] w fun e w' => ∃ A' c', e = .returned (.slice A' (n + 4) c') ∧ w'.ownsRow w.heap.size 5 1 (.slice A' (n + 4) c') (n + 4) (U (S.sealed l)) ∧ Below w.heap.size w w' := by
  have hsum := S.sum_lt l
  go_enter Try.func23, Try.ntmps23
  go_wp2_with (first
    | (at_builtin; refine app_law0 u8T rfl (.tmp 6) (.tmp 7) rfl w.heap.size rfl (lit0 w) rfl (h.alloc hB _) (U_one _) (by omega) (by omega) (by simp) ?_; rintro A1 c1 w1 ⟨hown1, hg1, _, _⟩; have hb1 := below_app ((Below.refl w.heap.size w).alloc (Nat.le_refl _) _) (lit0 w) hg1 (Nat.le_refl _) (by simp))
    | (go_at_call 37; refine (rsum_any A n c B l _ (h.below (hb1.mono hB)) (by omega)).mono ?_; rintro e w' ⟨rfl, rfl⟩))
  go_loopw [3, 4, 5] (fun o s i wr => ∃ (k : Nat) (A' : Option Addr) (c' : Nat), k ≤ 4 ∧ i = .int .i64 k ∧ s = .int .u32 (S.sum l / 256 ^ k : Nat) ∧ o = .slice A' (n + k) c' ∧
      wr.ownsRow w.heap.size 5 1 (.slice A' (n + k) c') (n + k) (U (l ++ (S.four (S.sum l)).take k)) ∧ Below w.heap.size w wr) (fun _ _ i _ => 4 - (intOf i).toNat)
  case atStart => exact ⟨0, A1, c1, by omega, rfl, by simp, rfl, by simpa using hown1, hb1⟩
  case round =>
    obtain ⟨k, A2, c2, hk, rfl, rfl, rfl, hown2, hb2⟩ := hrel
    have hbs := hb2.size
    by_cases hlt : k < 4
    · generalize hy : S.sum l / 256 ^ k = y
      have hy2 : y < 4294967296 := by rw [← hy]; exact Nat.lt_of_le_of_lt (Nat.div_le_self _ _) hsum
      have HY := Lib.hid hy
      clear hy
      go_wp2_with (at_builtin; refine app_law u8T rfl (.tmp 15) (.tmp 19) rfl w.heap.size rfl (hown2.alloc _) rfl (Rd.one _ _ _) (one_int _ _) (by omega) (by omega) (by simp; omega) ?_; rintro A3 c3 w3 ⟨hown3, hg3, _, _⟩)
      go_roundw
      case rel =>
        refine ⟨k + 1, A3, c3, by omega, by go_num, ?_, rfl, ?_, below_app (hb2.alloc hbs _) (hown2.alloc _) hg3 (Nat.le_refl _) (by simp; omega)⟩
        · rw [Nat.pow_succ, ← Nat.div_div_eq_div_mul, HY.out]; go_num
        · rw [take_more (four_at _ hlt), HY.out, ← List.append_assoc, U_append]
          rw [U_mod y]; exact hown3
      case measure => simp [intOf]; omega
    · have hk4 : k = 4 := by omega
      subst hk4
      go_wp2
      go_ret
      exact ⟨A2, c2, rfl, hown2, hb2⟩

set_option maxHeartbeats 800000 in
theorem ropen_short (A : Option Addr) (n c : Nat) (w : World) (h4 : n < 4) :
    Calls Try.prog 28 #[.slice A n c] w fun e w' => e = .returned (.tuple #[.slice none 0 0, .int .i64 2]) ∧ w = w' := by
  go_enter Try.func28, Try.ntmps28
  go_wp2
  go_ret2
  exact ⟨rfl, rfl⟩

set_option maxHeartbeats 800000 in
theorem ropen_long (A : Option Addr) (n c B : Nat) (l : List UInt8) (w : World) (h : Rd w B 1 A n (U l)) (hB : B ≤ w.heap.size) (hc1 : n ≤ c) (hn : n ≤ 35184372088832) (h4 : 4 ≤ n) :
    Calls Try.prog 28 #[.slice A n c] w fun e w' => (S.ok l ∧ e = .returned (.tuple #[.slice A (n - 4) c, .int .i64 0]) ∨
      ¬ S.ok l ∧ e = .returned (.tuple #[.slice none 0 0, .int .i64 5])) ∧ Below w.heap.size w w' := by
  have hl : l.length = n := by have := h.len1; rwa [U_length] at this
  have hcut : ∀ w, (Instr.slice 22 (.slice A n c) none (some (.int .i64 ((n : Int) - 4))) none).run Try.prog w = .ok (.slice A (n - 4) c) w := fun w => run_cut_h u8T w A n c (n - 4) ((n : Int) - 4) (by omega) (by omega)
  have hr1 := h.take1 (k := n - 4) (by omega)
  rw [U_take] at hr1
  have hs : ∀ w', Rd w' B 1 A n (U l) → _ := fun w' h' => run_str (P := Try.prog) (w := w') (c := c) 22 9 5 Try.underlying22 Try.underlying5 Try.underlying9 h'
  have hok := ok_sealed_iff (l := l) (by omega)
  rw [hl] at hok
  have HK := Lib.hid hok
  clear hok
  have e1 : n - 4 + 4 = n := by omega
  go_enter Try.func28, Try.ntmps28
  go_wp2
  have hs0 := hs w.drew h.drew
  go_region_with (first
    | (go_at_call 23; refine (rseal_any A (n - 4) c B (l.take (n - 4)) _ (by exact hr1) (by exact hB) (by omega)).mono ?_; rintro e w1 ⟨A1, c1, rfl, hown1, hb1⟩; rw [e1] at hown1 ⊢; have hr2 : Rd w1 B 1 A n (U l) := h.drew.below (hb1.mono hB); have hs2 := hs w1 hr2; have hstr1 := run_str (P := Try.prog) (w := w1) (c := c1) 22 9 5 Try.underlying22 Try.underlying5 Try.underlying9 (Rd.of_own hown1)))
  all_goals
    have hb2 : Below w.heap.size w w1 := Below.trans (Below.refl _ w).drew hb1
    have hcut2 := hcut w1
    by_cases hq : S.sealed (l.take (n - 4)) = l
    · have hq2 : (S.sealed (l.take (n - 4)) == l) = true := by rw [hq]; exact beq_self_eq_true _
      have HQ := Lib.hid hq
      simp only [hq2, Bool.not_true]
      clear hq hq2 hs hstr1
      go_wp2
      go_ret2
      exact ⟨Or.inl ⟨HK.out.2 HQ.out, rfl⟩, hb2⟩
    · have hq2 : (S.sealed (l.take (n - 4)) == l) = false := beq_eq_false_iff_ne.2 hq
      have HQ := Lib.hid hq
      simp only [hq2, Bool.not_false]
      clear hq hq2 hs hstr1
      go_wp2
      go_ret2
      exact ⟨Or.inr ⟨fun k => HQ.out (HK.out.1 k), rfl⟩, hb2⟩

theorem open_any (A : Option Addr) (n c B : Nat) (l : List UInt8) (w : World) (h : Rd w B 1 A n (U l)) (hB : B ≤ w.heap.size) (hc1 : n ≤ c) (hn : n ≤ 35184372088832) :
    Calls Try.prog 25 #[.slice A n c] w fun e w' => (∃ A' c', e = .returned (.tuple #[.slice A' (innerOf l).length c', .int .i64 (codeOf l)]) ∧ Rd w' w'.heap.size 1 A' (innerOf l).length (U (innerOf l)) ∧ (innerOf l).length ≤ c') ∧ Below w.heap.size w w' := by
  have hl : l.length = n := by have := h.len1; rwa [U_length] at this
  by_cases h4 : n < 4
  · refine (open_short A n c w h4).mono ?_
    rintro e w' ⟨rfl, rfl⟩
    have e1 : innerOf l = [] := if_neg fun k => by have := k.1; omega
    have e2 : codeOf l = 2 := if_pos (by omega)
    rw [e1, e2]
    exact ⟨⟨none, 0, rfl, Rd.zero _ _ _ _, Nat.le_refl _⟩, Below.refl _ _⟩
  · refine (open_long A n c B l w h hB hc1 hn (by omega)).mono ?_
    rintro e w' ⟨h5, h6⟩
    refine ⟨?_, h6⟩
    rcases h5 with ⟨hk, A', c', rfl, hown⟩ | ⟨hk, rfl⟩
    · have e1 : innerOf l = l.take (n - 4) := by unfold innerOf; rw [if_pos hk, hl]
      have e2 : codeOf l = 0 := by unfold codeOf; rw [if_neg (by omega), if_pos hk]
      have e3 : (l.take (n - 4)).length = n - 4 := by rw [List.length_take]; omega
      rw [e1, e2, e3]
      exact ⟨A', c', rfl, Rd.of_own hown, (own_cap hown).1⟩
    · have e1 : innerOf l = [] := if_neg hk
      have e2 : codeOf l = 5 := by unfold codeOf; rw [if_neg (by omega), if_neg hk]
      rw [e1, e2]
      exact ⟨none, 0, rfl, Rd.zero _ _ _ _, Nat.le_refl _⟩
theorem ropen_any (A : Option Addr) (n c B : Nat) (l : List UInt8) (w : World) (h : Rd w B 1 A n (U l)) (hB : B ≤ w.heap.size) (hc1 : n ≤ c) (hn : n ≤ 35184372088832) :
    Calls Try.prog 28 #[.slice A n c] w fun e w' => (∃ A' c', e = .returned (.tuple #[.slice A' (innerOf l).length c', .int .i64 (codeOf l)]) ∧ Rd w' w'.heap.size 1 A' (innerOf l).length (U (innerOf l)) ∧ (innerOf l).length ≤ c') ∧ Below w.heap.size w w' := by
  have hl : l.length = n := by have := h.len1; rwa [U_length] at this
  by_cases h4 : n < 4
  · refine (ropen_short A n c w h4).mono ?_
    rintro e w' ⟨rfl, rfl⟩
    have e1 : innerOf l = [] := if_neg fun k => by have := k.1; omega
    have e2 : codeOf l = 2 := if_pos (by omega)
    rw [e1, e2]
    exact ⟨⟨none, 0, rfl, Rd.zero _ _ _ _, Nat.le_refl _⟩, Below.refl _ _⟩
  · refine (ropen_long A n c B l w h hB hc1 hn (by omega)).mono ?_
    rintro e w' ⟨h5, h6⟩
    refine ⟨?_, h6⟩
    rcases h5 with ⟨hk, rfl⟩ | ⟨hk, rfl⟩
    · have e1 : innerOf l = l.take (n - 4) := by unfold innerOf; rw [if_pos hk, hl]
      have e2 : codeOf l = 0 := by unfold codeOf; rw [if_neg (by omega), if_pos hk]
      have e3 : (l.take (n - 4)).length = n - 4 := by rw [List.length_take]; omega
      have h7 := h.take1 (k := n - 4) (by omega)
      rw [U_take] at h7
      rw [e1, e2, e3]
      exact ⟨A, c, rfl, (h7.below (h6.mono hB)).more (Nat.le_trans hB h6.size), by omega⟩
    · have e1 : innerOf l = [] := if_neg hk
      have e2 : codeOf l = 5 := by unfold codeOf; rw [if_neg (by omega), if_neg hk]
      rw [e1, e2]
      exact ⟨none, 0, rfl, Rd.zero _ _ _ _, Nat.le_refl _⟩
end Go.Proofs.Ytbnbljkkfgieoaa
