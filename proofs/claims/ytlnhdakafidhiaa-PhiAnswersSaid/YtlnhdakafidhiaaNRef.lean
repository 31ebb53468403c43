/- The document's windows: may one be, are two the same, what is one of nothing, their means. -/
import Derived.Test.YtlnhdakafidhiaaNMem
import Derived.Test.YtlnhdakafidhiaaRAlive
import Derived.Deep.QuietTactic
import Derived.BigQuiet
namespace Go.Proofs.Ytlnhdakafidhiaa
set_option linter.unusedVariables false
set_option linter.unusedSimpArgs false
open Go.RowKit

theorem i64N : SlT Try.prog 22 3 (.int .i64 0) 1 8 := ⟨Try.underlying22, by kernel_rfl, rfl, by omega⟩
/-- the box of a window that came in -/
def wcells (u : Wv) : Array Value := #[.int .i64 u.x.last, .slice u.A u.n u.c]
theorem rightB_no {x : Wi} (h : ¬ N.right x) : N.rightB x = false := decide_eq_false h
theorem rightB_yes {x : Wi} (h : N.right x) : N.rightB x = true := decide_eq_true h

set_option maxHeartbeats 2000000 in
set_option maxRecDepth 20000 in
theorem rnright_any (u : Wv) (w : World) (h : WRd w u) :
    Calls Try.prog 18 #[wval u] w (BoolR (N.rightB u.x) w) := by
  obtain ⟨⟨last, l⟩, A, n, c⟩ := u
  obtain ⟨h, hc, hm⟩ := h
  simp only at h hc hm
  have hl : l.length = n := by have := h.len1; rwa [I_length] at this
  have HL := Lib.hid hl
  clear hl
  simp only [wval]
  have X := Box.new w #[.int .i64 last, .slice A n c] 24
  have b := (Below.refl w.heap.size w).alloc (Nat.le_refl _) (.cells #[.int .i64 last, .slice A n c] 24)
  replace h := h.alloc (Nat.le_refl _) (.cells #[.int .i64 last, .slice A n c] 24)
  have HR := Lib.hid h
  clear h
  go_enter Try.func18, Try.ntmps18
  go_wp2
  generalize w.alloc (.cells #[.int .i64 last, .slice A n c] 24) = w1 at *
  have y0 := X.at 0 rfl
  have y1 := X.at 1 rfl
  go_loop [3] (fun i => ∃ k : Nat, k ≤ n ∧ k ≤ 17 ∧ i = .int .i64 k ∧ ∀ g ∈ l.take k, 1 ≤ g ∧ g ≤ 1099511627776) (fun i => n - (intOf i).toNat)
  case atStart => exact ⟨0, by omega, by omega, rfl, by simp⟩
  case round =>
    obtain ⟨k, hk, hk17, rfl, hall⟩ := hrel
    have HALL := Lib.hid hall
    clear hall
    by_cases hlt : k < n
    · by_cases h17 : k < 17
      · obtain ⟨bk, o, g, rfl, hb, hx, hcell⟩ := HR.out.atI hlt
        have HX := Lib.hid hx
        have hk0 : (0 : Int) ≤ (k : Int) := by omega
        have no : ∀ (hg : ¬ (1 ≤ g ∧ g ≤ 1099511627776)), N.rightB ⟨last, l⟩ = false := fun hg => rightB_no fun hr => hg (hr.2.2.2 g (List.mem_of_getElem? HX.out))
        have NO := Lib.hid no
        clear hx no
        by_cases g1 : g < 1
        · go_wp2
          go_ret
          exact ⟨ret_bool (NO.out (by omega)).symm, b⟩
        · by_cases g2 : 1099511627776 < g
          · go_wp2
            go_ret
            exact ⟨ret_bool (NO.out (by omega)).symm, b⟩
          · go_wp2
            go_round
            case rel => exact ⟨k + 1, by omega, by omega, by go_num, fun y hy => by
              rw [take_more HX.out] at hy
              rcases List.mem_append.1 hy with hy | hy
              · exact HALL.out y hy
              · obtain rfl : y = g := by simpa using hy
                omega⟩
            case measure => simp [intOf]; omega
      · obtain rfl : k = 17 := by omega
        have no : N.rightB ⟨last, l⟩ = false := rightB_no fun hr => by
          have h3 : l.length ≤ 16 := hr.2.2.1
          rw [HL.out] at h3
          omega
        have NO := Lib.hid no
        have h16 : ¬ n ≤ 16 := by omega
        have d3 : decide ((n : Int) ≤ 16) = false := decide_eq_false (by omega)
        clear no
        go_wp2
        all_goals go_ret
        all_goals exact ⟨ret_bool (by rw [NO.out]), b⟩
    · have e : k = n := by omega
      subst e
      have hall : ∀ g ∈ l, 1 ≤ g ∧ g ≤ 1099511627776 := by
        have := HALL.out
        rwa [List.take_of_length_le (by have := HL.out; omega)] at this
      have iff : N.right ⟨last, l⟩ ↔ -1 ≤ last ∧ last ≤ 1099511627776 ∧ k ≤ 16 := by
        have hl := HL.out
        constructor
        · intro h
          exact ⟨h.1, h.2.1, by have h3 : l.length ≤ 16 := h.2.2.1; omega⟩
        · intro ⟨h1, h2, h3⟩
          exact ⟨h1, h2, by show l.length ≤ 16; omega, hall⟩
      have IFF := Lib.hid iff
      clear hall iff
      by_cases c1 : -1 ≤ last
      · by_cases c2 : last ≤ 1099511627776
        · by_cases c3 : k ≤ 16
          · go_wp2
            go_ret
            exact ⟨ret_bool (by rw [rightB_yes (IFF.out.2 ⟨c1, c2, c3⟩)]; simp; omega), b⟩
          · go_wp2
            go_ret
            exact ⟨ret_bool (by rw [rightB_no fun h => c3 (IFF.out.1 h).2.2]; simp; omega), b⟩
        · have NO : Hid (N.rightB ⟨last, l⟩ = false) := Lib.hid (rightB_no fun h => c2 (IFF.out.1 h).2.1)
          go_wp2
          go_ret
          exact ⟨ret_bool (by rw [NO.out]), b⟩
      · have NO : Hid (N.rightB ⟨last, l⟩ = false) := Lib.hid (rightB_no fun h => c1 (IFF.out.1 h).1)
        go_wp2
        go_ret
        exact ⟨ret_bool (by rw [NO.out]), b⟩

theorem rnnew_any (w : World) : Calls Try.prog 21 #[] w (WinR1 N.new w) := by
  go_enter Try.func21, Try.ntmps21
  go_wp2
  have X := Box.new w #[.int .i64 (-1), .slice none 0 0] 24
  have y0 := X.at 0 rfl
  have y1 := X.at 1 rfl
  refine bodyPost_ret (v := .agg #[.int .i64 (-1), .slice none 0 0]) (by simp [results, Try.results21, go_sem, y0, y1]; try rfl) rfl ⟨⟨none, 0, 0, rfl, Rd.zero _ _ _ _, Nat.le_refl _, by show 0 ≤ _; omega⟩, (Below.refl _ _).alloc (Nat.le_refl _) _⟩

set_option maxHeartbeats 1000000 in
theorem rnmean_any (u : Wv) (boot : Int) (w : World) (h : WRd w u) (hn : u.n ≤ 1000) :
    Calls Try.prog 19 #[wval u, .int .i64 boot] w (IntBR (N.mean u.x boot) w) := by
  obtain ⟨⟨last, l⟩, A, n, c⟩ := u
  obtain ⟨h, hc, hm⟩ := h
  simp only at h hc hm hn
  have hl : l.length = n := by have := h.len1; rwa [I_length] at this
  have HL := Lib.hid hl
  clear hl
  simp only [wval]
  have X := Box.new w #[.int .i64 last, .slice A n c] 24
  have b := (Below.refl w.heap.size w).alloc (Nat.le_refl _) (.cells #[.int .i64 last, .slice A n c] 24)
  replace h : Rd (w.alloc (.cells #[.int .i64 last, .slice A n c] 24)) (w.alloc (.cells #[.int .i64 last, .slice A n c] 24)).heap.size 1 A n (I l) := (h.alloc (Nat.le_refl _) _).more (by simp)
  by_cases h0 : n = 0
  · subst h0
    have e : N.mean ⟨last, l⟩ boot = max 1 boot := by unfold N.mean; rw [if_pos HL.out]
    rw [e]
    clear e
    go_enter Try.func19, Try.ntmps19
    go_wp2
    go_ret
    exact ⟨rfl, b⟩
  · have e : N.mean ⟨last, l⟩ boot = max 1 (R.mean l) := by unfold N.mean; rw [if_neg (by show ¬ l.length = 0; rw [HL.out]; exact h0)]
    rw [e]
    have hne : ((n : Int) == 0) = false := beq_eq_false_iff_ne.2 (by omega)
    clear e
    go_enter Try.func19, Try.ntmps19
    go_wp2_with fail
    refine (rmean_any _ _ _ l _ h (by omega)).mono ?_
    rintro e w2 ⟨rfl, hb⟩
    replace b := b.trans (hb.mono b.size)
    clear hb
    go_wp2
    go_ret
    exact ⟨rfl, b⟩

end Go.Proofs.Ytlnhdakafidhiaa
