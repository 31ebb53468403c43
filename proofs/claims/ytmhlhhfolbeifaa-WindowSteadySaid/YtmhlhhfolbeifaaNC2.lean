/- Slices of ints: Concat of two; one gap more. -/
import Derived.Test.YtmhlhhfolbeifaaNC1
namespace Go.Proofs.Ytmhlhhfolbeifaa
set_option linter.unusedVariables false
set_option linter.unusedSimpArgs false
open Go.RowKit

set_option maxHeartbeats 2000000 in
theorem concat2_any (l l' : List Int) (bp : Nat) (A A' : Option Addr) (n n' c c' : Nat) (w : World) (hp : bp < w.heap.size) (h0 : w.cell? ⟨bp, 0, none⟩ = some (.slice A n c)) (h1 : w.cell? ⟨bp, 1, none⟩ = some (.slice A' n' c'))
    (h : Rd w w.heap.size 1 A n (I l)) (h' : Rd w w.heap.size 1 A' n' (I l')) (hn : n ≤ 1000) (hn' : n' ≤ 1000) :
    Calls Try.prog 28 #[.slice (some ⟨bp, 0, none⟩) 2 2] w (MadeI (l ++ l') w) := by
  have hl : l.length = n := by have := h.len1; rwa [I_length] at this
  have hl' : l'.length = n' := by have := h'.len1; rwa [I_length] at this
  have HL := Lib.hid hl
  have HL' := Lib.hid hl'
  clear hl hl'
  go_enter Try.func28, Try.ntmps28
  go_wp2
  go_loop [3, 11] (fun s i => (i = .int .i64 0 ∧ s = .int .i64 0) ∨ (i = .int .i64 1 ∧ s = .int .i64 n) ∨ (i = .int .i64 2 ∧ s = .int .i64 (n + n' : Nat))) (fun _ i => 2 - (intOf i).toNat)
  case atStart => exact Or.inl ⟨rfl, rfl⟩
  case round =>
    rcases hrel with ⟨rfl, rfl⟩ | ⟨rfl, rfl⟩ | ⟨rfl, rfl⟩
    · go_wp2
      go_round
      case rel => exact Or.inr (Or.inl ⟨rfl, by simp⟩)
      case measure => simp [intOf]
    · go_wp2
      go_round
      case rel => exact Or.inr (Or.inr ⟨rfl, by simp⟩)
      case measure => simp [intOf]
    · go_wp2_with fail
      refine (igrow_any (n + n') (by omega) w).mono ?_
      rintro e w2 ⟨A1, c1, rfl, own, hb⟩
      go_wp2
      go_loopw [6, 27] (fun s i wr => ∃ (k : Nat) (A1 : Option Addr) (m1 c1 : Nat) (xs : List Int), s = .slice A1 m1 c1 ∧ i = .int .i64 k ∧ (k = 0 ∧ m1 = 0 ∧ xs = [] ∨ k = 1 ∧ m1 = n ∧ xs = l ∨ k = 2 ∧ m1 = n + n' ∧ xs = l ++ l') ∧ wr.ownsRow w.heap.size 3 1 (.slice A1 m1 c1) m1 (I xs) ∧ Below w.heap.size w wr) (fun _ i _ => 2 - (intOf i).toNat)
      case atStart => exact ⟨0, A1, 0, c1, [], rfl, rfl, Or.inl ⟨rfl, rfl, rfl⟩, own, hb⟩
      case round =>
        clear own hb
        obtain ⟨k, A2, m2, c2, xs, rfl, rfl, hk, own, hb⟩ := hrel
        have r0 := h.below hb
        have r1 := h'.below hb
        have y0 := (hb.cell (p := ⟨bp, 0, none⟩) hp).trans h0
        have y1 := (hb.cell (p := ⟨bp, 1, none⟩) hp).trans h1
        have hs := hb.size
        rcases hk with ⟨rfl, rfl, rfl⟩ | ⟨rfl, rfl, rfl⟩ | ⟨rfl, rfl, rfl⟩
        · go_wp2_with (at_builtin; refine app_law0 i64N rfl (.tmp 31) (.tmp 32) rfl w.heap.size rfl own rfl r0 (I_one _) (by omega) (by omega) hs ?_; rintro A3 c3 w3 ⟨own3, hg3, _, _⟩)
          go_roundw
          case rel => exact ⟨1, A3, _, c3, l, rfl, rfl, Or.inr (Or.inl ⟨rfl, rfl, rfl⟩), by simpa using own3, below_app hb own hg3 (Nat.le_refl _) hs⟩
          case measure => simp [intOf]
        · go_wp2_with (at_builtin; refine app_law i64N rfl (.tmp 31) (.tmp 32) rfl w.heap.size rfl own rfl r1 (I_one _) (by omega) (by omega) hs ?_; rintro A3 c3 w3 ⟨own3, hg3, _, _⟩)
          go_roundw
          case rel => exact ⟨2, A3, _, c3, xs ++ l', rfl, rfl, Or.inr (Or.inr ⟨rfl, rfl, rfl⟩), by rw [show I (xs ++ l') = I xs ++ I l' by simp [I]]; exact own3, below_app hb own hg3 (Nat.le_refl _) hs⟩
          case measure => simp [intOf]
        · go_wp2
          go_ret
          exact ⟨A2, _, c2, rfl, by rw [List.length_append, HL.out, HL'.out], own, hb⟩

set_option maxHeartbeats 2000000 in
theorem behind_any (l : List Int) (g : Int) (A : Option Addr) (n c : Nat) (w : World) (h : Rd w w.heap.size 1 A n (I l)) (hc : n ≤ c) (hn : n ≤ 16) :
    Calls Try.prog 21 #[.slice A n c, .int .i64 g] w (MadeI (N.keep (l ++ [g])) w) := by
  have hl : l.length = n := by have := h.len1; rwa [I_length] at this
  have HL := Lib.hid hl
  clear hl
  by_cases h16 : n = 16
  · subst h16
    have e : N.keep (l ++ [g]) = l.drop 1 ++ [g] := by rw [N.keep_long (by rw [List.length_append, HL.out]; rfl), List.drop_append_of_le_length (by rw [HL.out]; omega)]
    rw [e]
    clear e
    have hcut : ∀ w, (Instr.slice 22 (.slice A 16 c) (some (.int .i64 1)) none none).run Try.prog w = .ok (.slice (cutA A c 1 1) 15 (c - 1)) w := fun w => run_cut_l i64N w A 16 c 1 1 rfl (by omega)
    have hcut2 : ∀ w, (Instr.slice 22 (.slice A 16 c) (some (.int .i64 (max 0 1))) none none).run Try.prog w = .ok (.slice (cutA A c 1 1) 15 (c - 1)) w := hcut
    have r := ((h.cut1 (k := 1) (cap := c) (by omega) hc).alloc (Nat.le_refl _) (.cells #[.int .i64 g] 3)).alloc (by simp) (.cells #[.slice (cutA A c 1 1) 15 (c - 1), .slice (some ⟨w.heap.size, 0, none⟩) 1 1] 22)
    have o := (Rd.one w (.int .i64 g) 3).alloc (by simp) (.cells #[.slice (cutA A c 1 1) 15 (c - 1), .slice (some ⟨w.heap.size, 0, none⟩) 1 1] 22)
    have X := Box.new (w.alloc (.cells #[.int .i64 g] 3)) #[.slice (cutA A c 1 1) 15 (c - 1), .slice (some ⟨w.heap.size, 0, none⟩) 1 1] 22
    rw [show (w.alloc (.cells #[.int .i64 g] 3)).heap.size = w.heap.size + 1 by simp] at X
    have y0 := X.at 0 rfl
    have y1 := X.at 1 rfl
    have b := ((Below.refl w.heap.size w).alloc (Nat.le_refl _) (.cells #[.int .i64 g] 3)).alloc (by simp) (.cells #[.slice (cutA A c 1 1) 15 (c - 1), .slice (some ⟨w.heap.size, 0, none⟩) 1 1] 22)
    rw [show (I l).drop 1 = I (l.drop 1) by simp [I, List.map_drop]] at r
    go_enter Try.func21, Try.ntmps21
    go_wp2_with fail
    refine (concat2_any (l.drop 1) [g] (w.heap.size + 1) _ _ 15 1 (c - 1) 1 _ (by simp) y0 y1 (r.more (by simp <;> omega)) (o.more (by simp <;> omega)) (by omega) (by omega)).mono ?_
    rintro e w2 ⟨A2, n2, c2, rfl, hl2, own, hb⟩
    go_wp2
    go_ret
    exact ⟨A2, n2, c2, rfl, hl2, own_mono own (by simp <;> omega), b.trans (hb.mono b.size)⟩
  · have e : N.keep (l ++ [g]) = l ++ [g] := N.keep_short (by rw [List.length_append, HL.out]; show n + 1 ≤ 16; omega)
    rw [e]
    clear e
    have hcut : ∀ w, (Instr.slice 22 (.slice A n c) (some (.int .i64 0)) none none).run Try.prog w = .ok (.slice (cutA A c 0 1) n c) w := fun w => run_cut_l i64N w A n c 0 0 rfl (by omega)
    have hmax : max (0 : Int) ((n : Int) + 1 - 16) = 0 := by omega
    have r := ((h.cut1 (k := 0) (cap := c) (by omega) hc).alloc (Nat.le_refl _) (.cells #[.int .i64 g] 3)).alloc (by simp) (.cells #[.slice (cutA A c 0 1) n c, .slice (some ⟨w.heap.size, 0, none⟩) 1 1] 22)
    have o := (Rd.one w (.int .i64 g) 3).alloc (by simp) (.cells #[.slice (cutA A c 0 1) n c, .slice (some ⟨w.heap.size, 0, none⟩) 1 1] 22)
    have X := Box.new (w.alloc (.cells #[.int .i64 g] 3)) #[.slice (cutA A c 0 1) n c, .slice (some ⟨w.heap.size, 0, none⟩) 1 1] 22
    rw [show (w.alloc (.cells #[.int .i64 g] 3)).heap.size = w.heap.size + 1 by simp] at X
    have y0 := X.at 0 rfl
    have y1 := X.at 1 rfl
    have b := ((Below.refl w.heap.size w).alloc (Nat.le_refl _) (.cells #[.int .i64 g] 3)).alloc (by simp) (.cells #[.slice (cutA A c 0 1) n c, .slice (some ⟨w.heap.size, 0, none⟩) 1 1] 22)
    rw [show (I l).drop 0 = I l by simp] at r
    go_enter Try.func21, Try.ntmps21
    go_wp2_with fail
    refine (concat2_any l [g] (w.heap.size + 1) _ _ n 1 c 1 _ (by simp) y0 y1 (r.more (by simp <;> omega)) (o.more (by simp <;> omega)) (by omega) (by omega)).mono ?_
    rintro e w2 ⟨A2, n2, c2, rfl, hl2, own, hb⟩
    go_wp2
    go_ret
    exact ⟨A2, n2, c2, rfl, hl2, own_mono own (by simp <;> omega), b.trans (hb.mono b.size)⟩
end Go.Proofs.Ytmhlhhfolbeifaa
