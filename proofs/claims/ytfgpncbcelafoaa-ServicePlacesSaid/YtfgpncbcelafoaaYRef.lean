/- The document's services: is a text a word, is a number short, may a service be. -/
import Derived.Test.YtfgpncbcelafoaaYMath
import Derived.Test.YtfgpncbcelafoaaBase
namespace Go.Proofs.Ytfgpncbcelafoaa
set_option linter.unusedVariables false
set_option linter.unusedSimpArgs false
open Go.RowKit
def BoolY (b : Bool) (w : World) (e : Ending) (w' : World) : Prop := e = .returned (.bool b) ∧ w = w'
theorem str_at {w : World} {l : List UInt8} {k : Nat} {x : UInt8} (h : l[k]? = some x) : (Instr.index 9 (.string (strB l)) (.int .i64 (k : Int))).run Try.prog w = .ok (.int .u8 (x.toNat : Int)) w := by
  obtain ⟨hk, rfl⟩ := List.getElem?_eq_some_iff.1 h
  have hs : (strB l).size = l.length := strB_size l
  rw [run_index_string w 9 (strB l) .i64 (k : Int) Try.underlying9, dif_pos ⟨by omega, by omega⟩]
  rfl
theorem chr_step {s : List UInt8} {k : Nat} {x : UInt8} (hx : s[k]? = some x) (h : ∀ i, i < k → Y.chr (s.getD i 0).toNat i s.length) (hc : Y.chr x.toNat k s.length) : ∀ i, i < k + 1 → Y.chr (s.getD i 0).toNat i s.length := fun i hi => by
  by_cases e : i = k
  · subst e
    rw [List.getD_eq_getElem?_getD, hx]
    exact hc
  · exact h i (by omega)
theorem word_no {s : List UInt8} {k : Nat} {x : UInt8} (hx : s[k]? = some x) (hc : ¬ Y.chr x.toNat k s.length) : decide (Y.word s) = false := decide_eq_false fun h => hc (by
  have hk := (List.getElem?_eq_some_iff.1 hx).1
  have := h.2.2 k hk
  rwa [List.getD_eq_getElem?_getD, hx] at this)
set_option maxHeartbeats 4000000 in
set_option maxRecDepth 20000 in
theorem ryword_any (l : List UInt8) (n : Nat) (hn : l.length = n) (hm : n ≤ 4611686018427387904) (w : World) : Calls Try.prog 14 #[.string (strB l)] w (BoolY (decide (Y.word l)) w) := by
  have hsz : (strB l).size = n := by rw [strB_size, hn]
  have HN := Lib.hid hn
  clear hn
  go_enter Try.func14, Try.ntmps14
  go_wp2
  go_loop [3] (fun v => ∃ k : Nat, k ≤ n ∧ k ≤ 21 ∧ v = .int .i64 (k : Int) ∧ ∀ i, i < k → Y.chr (l.getD i 0).toNat i l.length) (fun v => 21 - (intOf v).toNat)
  case atStart => exact ⟨0, by omega, by omega, rfl, fun i hi => by omega⟩
  case round =>
    obtain ⟨k, hk, hk21, rfl, hno⟩ := hrel
    have HNO := Lib.hid hno
    clear hno
    have hk0 : (0 : Int) ≤ (k : Int) := by omega
    by_cases hlt : k < n ∧ k < 21
    · obtain ⟨h1, h2⟩ := hlt
      obtain ⟨x, hx⟩ : ∃ x, l[k]? = some x := ⟨_, List.getElem?_eq_getElem (by have := HN.out; omega)⟩
      have g1 : decide ((k : Int) < (n : Int)) = true := decide_eq_true (by omega)
      have g2 : decide ((k : Int) < 21) = true := decide_eq_true (by omega)
      have g2' : decide (k < 21) = true := decide_eq_true (by omega)
      have IX := str_at (w := w) hx
      have HX := Lib.hid hx
      have hx256 : x.toNat < 256 := x.toNat_lt
      obtain ⟨c, hc⟩ : ∃ c : Int, (x.toNat : Int) = c := ⟨_, rfl⟩
      rw [hc] at IX
      have HC := Lib.hid hc
      clear hx hc
      obtain ⟨d, hd⟩ : ∃ d : Int, (n : Int) - 1 = d := ⟨_, rfl⟩
      have w1 : wrap64 ((n : Int) - 1) = d := by rw [← hd]; unfold wrap64; omega
      have w2 : IntKind.i64.wrap ((n : Int) - 1) = d := by rw [← hd]; exact IntWalk.i64_in _ (by omega)
      have HD := Lib.hid hd
      clear hd
      have yes : Y.chr x.toNat k l.length → ∃ k' : Nat, k' ≤ n ∧ k' ≤ 21 ∧ Value.int .i64 ((k : Int) + 1) = .int .i64 (k' : Int) ∧ ∀ i, i < k' → Y.chr (l.getD i 0).toNat i l.length := fun hc => ⟨k + 1, by omega, by omega, by go_num, chr_step HX.out HNO.out hc⟩
      have YES := Lib.hid yes
      have no : ¬ Y.chr x.toNat k l.length → BoolY (decide (Y.word l)) w (.returned (.bool false)) w := fun hc => ⟨ret_bool (word_no HX.out hc).symm, rfl⟩
      have NO := Lib.hid no
      clear yes no
      by_cases a : 97 ≤ c
      · by_cases b : c ≤ 122
        · skip
          have f1 : decide (97 ≤ c) = true := decide_eq_true (by omega)
          have f2 : decide (c ≤ 122) = true := decide_eq_true (by omega)
          have Z : Hid _ := Lib.hid (YES.out (by unfold Y.chr; have h7 := HC.out; have h8 := HN.out; omega))
          clear a b
          go_wp2
          go_round
          case rel => exact Z.out
          case measure => simp [intOf]; omega
        · skip
          have f1 : decide (97 ≤ c) = true := decide_eq_true (by omega)
          have f2 : decide (c ≤ 122) = false := decide_eq_false (by omega)
          have f3 : decide (48 ≤ c) = true := decide_eq_true (by omega)
          have f4 : decide (c ≤ 57) = false := decide_eq_false (by omega)
          have f5 : (c == 45) = false := by rw [beq_eq_false_iff_ne]; omega
          have Z : Hid _ := Lib.hid (NO.out (by unfold Y.chr; have h7 := HC.out; have h8 := HN.out; omega))
          clear a b
          go_wp2
          go_ret
          exact Z.out
      · by_cases b : 48 ≤ c
        · by_cases b2 : c ≤ 57
          · skip
            have f1 : decide (97 ≤ c) = false := decide_eq_false (by omega)
            have f3 : decide (48 ≤ c) = true := decide_eq_true (by omega)
            have f4 : decide (c ≤ 57) = true := decide_eq_true (by omega)
            have Z : Hid _ := Lib.hid (YES.out (by unfold Y.chr; have h7 := HC.out; have h8 := HN.out; omega))
            clear a b b2
            go_wp2
            go_round
            case rel => exact Z.out
            case measure => simp [intOf]; omega
          · skip
            have f1 : decide (97 ≤ c) = false := decide_eq_false (by omega)
            have f3 : decide (48 ≤ c) = true := decide_eq_true (by omega)
            have f4 : decide (c ≤ 57) = false := decide_eq_false (by omega)
            have f5 : (c == 45) = false := by rw [beq_eq_false_iff_ne]; omega
            have Z : Hid _ := Lib.hid (NO.out (by unfold Y.chr; have h7 := HC.out; have h8 := HN.out; omega))
            clear a b b2
            go_wp2
            go_ret
            exact Z.out
        · by_cases e : c = 45
          · by_cases pp : 0 < k
            · by_cases q : k + 1 < n
              · skip
                have f1 : decide (97 ≤ c) = false := decide_eq_false (by omega)
                have f3 : decide (48 ≤ c) = false := decide_eq_false (by omega)
                have f5 : (c == 45) = true := by rw [beq_iff_eq]; omega
                have f6 : decide ((0 : Int) < (k : Int)) = true := decide_eq_true (by omega)
                have f6' : decide (0 < k) = true := decide_eq_true (by omega)
                have f7 : decide ((k : Int) < d) = true := decide_eq_true (by have := HD.out; omega)
                have Z : Hid _ := Lib.hid (YES.out (by unfold Y.chr; have h7 := HC.out; have h8 := HN.out; omega))
                clear a b e
                go_wp2
                go_round
                case rel => exact Z.out
                case measure => simp [intOf]; omega
              · skip
                have f1 : decide (97 ≤ c) = false := decide_eq_false (by omega)
                have f3 : decide (48 ≤ c) = false := decide_eq_false (by omega)
                have f5 : (c == 45) = true := by rw [beq_iff_eq]; omega
                have f6 : decide ((0 : Int) < (k : Int)) = true := decide_eq_true (by omega)
                have f6' : decide (0 < k) = true := decide_eq_true (by omega)
                have f7 : decide ((k : Int) < d) = false := decide_eq_false (by have := HD.out; omega)
                have Z : Hid _ := Lib.hid (NO.out (by unfold Y.chr; have h7 := HC.out; have h8 := HN.out; omega))
                clear a b e
                go_wp2
                go_ret
                exact Z.out
            · skip
              have f1 : decide (97 ≤ c) = false := decide_eq_false (by omega)
              have f3 : decide (48 ≤ c) = false := decide_eq_false (by omega)
              have f5 : (c == 45) = true := by rw [beq_iff_eq]; omega
              have f6 : decide ((0 : Int) < (k : Int)) = false := decide_eq_false (by omega)
              have f6' : decide (0 < k) = false := decide_eq_false (by omega)
              have Z : Hid _ := Lib.hid (NO.out (by unfold Y.chr; have h7 := HC.out; have h8 := HN.out; omega))
              clear a b e
              go_wp2
              go_ret
              exact Z.out
          · skip
            have f1 : decide (97 ≤ c) = false := decide_eq_false (by omega)
            have f3 : decide (48 ≤ c) = false := decide_eq_false (by omega)
            have f5 : (c == 45) = false := by rw [beq_eq_false_iff_ne]; omega
            have Z : Hid _ := Lib.hid (NO.out (by unfold Y.chr; have h7 := HC.out; have h8 := HN.out; omega))
            clear a b e
            go_wp2
            go_ret
            exact Z.out
    · skip
      have END : Hid (decide (Y.word l) = decide (1 ≤ n ∧ n ≤ 20)) := Lib.hid (decide_eq_decide.2 (by
        have h8 := HN.out
        constructor
        · rintro ⟨h1, h2, _⟩
          omega
        · rintro ⟨h1, h2⟩
          refine ⟨by omega, by omega, fun i hi => HNO.out i (by omega)⟩))
      have g3 : (decide ((k : Int) < (n : Int)) && decide ((k : Int) < 21)) = false := by rw [Bool.and_eq_false_iff]; by_cases h : k < n; exact Or.inr (decide_eq_false (by omega)); exact Or.inl (decide_eq_false (by omega))
      clear HNO
      by_cases hkn : k < n
      · have g1 : decide ((k : Int) < (n : Int)) = true := decide_eq_true (by omega)
        have g2 : decide ((k : Int) < 21) = false := decide_eq_false (by omega)
        have g2' : decide (k < 21) = false := decide_eq_false (by omega)
        by_cases m1 : 1 ≤ n
        · have f1 : decide ((1 : Int) ≤ (n : Int)) = true := decide_eq_true (by omega)
          have f1' : decide (1 ≤ n) = true := decide_eq_true (by omega)
          by_cases m2 : n ≤ 20
          · have f2 : decide ((n : Int) ≤ 20) = true := decide_eq_true (by omega)
            have f2' : decide (n ≤ 20) = true := decide_eq_true (by omega)
            have Z : Hid (decide (Y.word l) = true) := Lib.hid (END.out.trans (decide_eq_true ⟨m1, m2⟩))
            go_wp2
            go_ret
            exact ⟨ret_bool Z.out.symm, rfl⟩
          · have f2 : decide ((n : Int) ≤ 20) = false := decide_eq_false (by omega)
            have f2' : decide (n ≤ 20) = false := decide_eq_false (by omega)
            have Z : Hid (decide (Y.word l) = false) := Lib.hid (END.out.trans (decide_eq_false (fun h => m2 h.2)))
            go_wp2
            go_ret
            exact ⟨ret_bool Z.out.symm, rfl⟩
        · have f1 : decide ((1 : Int) ≤ (n : Int)) = false := decide_eq_false (by omega)
          have f1' : decide (1 ≤ n) = false := decide_eq_false (by omega)
          have Z : Hid (decide (Y.word l) = false) := Lib.hid (END.out.trans (decide_eq_false (fun h => m1 h.1)))
          go_wp2
          go_ret
          exact ⟨ret_bool Z.out.symm, rfl⟩
      · have g1 : decide ((k : Int) < (n : Int)) = false := decide_eq_false (by omega)
        by_cases m1 : 1 ≤ n
        · have f1 : decide ((1 : Int) ≤ (n : Int)) = true := decide_eq_true (by omega)
          have f1' : decide (1 ≤ n) = true := decide_eq_true (by omega)
          by_cases m2 : n ≤ 20
          · have f2 : decide ((n : Int) ≤ 20) = true := decide_eq_true (by omega)
            have f2' : decide (n ≤ 20) = true := decide_eq_true (by omega)
            have Z : Hid (decide (Y.word l) = true) := Lib.hid (END.out.trans (decide_eq_true ⟨m1, m2⟩))
            go_wp2
            go_ret
            exact ⟨ret_bool Z.out.symm, rfl⟩
          · have f2 : decide ((n : Int) ≤ 20) = false := decide_eq_false (by omega)
            have f2' : decide (n ≤ 20) = false := decide_eq_false (by omega)
            have Z : Hid (decide (Y.word l) = false) := Lib.hid (END.out.trans (decide_eq_false (fun h => m2 h.2)))
            go_wp2
            go_ret
            exact ⟨ret_bool Z.out.symm, rfl⟩
        · have f1 : decide ((1 : Int) ≤ (n : Int)) = false := decide_eq_false (by omega)
          have f1' : decide (1 ≤ n) = false := decide_eq_false (by omega)
          have Z : Hid (decide (Y.word l) = false) := Lib.hid (END.out.trans (decide_eq_false (fun h => m1 h.1)))
          go_wp2
          go_ret
          exact ⟨ret_bool Z.out.symm, rfl⟩
end Go.Proofs.Ytfgpncbcelafoaa
