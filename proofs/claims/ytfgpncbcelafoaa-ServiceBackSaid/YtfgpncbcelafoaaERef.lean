/- The reference's words on tables: May, above, Top, Great, Above, Get. -/
import Derived.Test.YtfgpncbcelafoaaChecked
import Derived.Test.YtfgpncbcelafoaaWords
import Derived.Test.YtfgpncbcelafoaaEMem
import Derived.Test.YtfgpncbcelafoaaEMath2
import Derived.RegionTactic
import Derived.BigQuiet
import Derived.Laws.Cover1
import Derived.Deep.QuietTactic
namespace Go.Proofs.Ytfgpncbcelafoaa
set_option linter.unusedVariables false
set_option linter.unusedSimpArgs false
open Go.RowKit

theorem enT : SlT Try.prog 33 40 (.agg #[.int .i64 0, .int .i64 0, .string ⟨#[]⟩]) 3 32 := ⟨Try.underlying33, by kernel_rfl, rfl, by omega⟩
def emayB (x : Ent) : Bool := decide (E.may x)
theorem emay_no {x : Ent} (h : ¬ E.may x) : false = emayB x := (decide_eq_false h).symm
theorem emay_eq {x : Ent} {p : Prop} [Decidable p] (h : p ↔ E.may x) : decide p = emayB x := decide_eq_decide.2 h

set_option maxHeartbeats 1000000 in
theorem rmay_any (x : Ent) (w : World) :
    Calls Try.prog 32 #[ev x] w fun e w' => e = .returned (.bool (emayB x)) ∧ Below w.heap.size w w' := by
  obtain ⟨k, v, s⟩ := x
  simp only [ev]
  have hs : (strB s).size = s.length := strB_size s
  by_cases h1 : 0 ≤ k
  · by_cases h2 : k < 12
    · by_cases h3 : 1 ≤ v
      · by_cases h4 : v ≤ 1099511627776
        all_goals
          go_enter Try.func32, Try.ntmps32
          go_wp2
          go_ret
          exact ⟨ret_bool (by first | exact emay_no (by unfold E.may; dsimp only; omega) | exact emay_eq (by unfold E.may; dsimp only; omega)), (Below.refl _ _).alloc (Nat.le_refl _) _⟩
      · go_enter Try.func32, Try.ntmps32
        go_wp2
        go_ret
        exact ⟨ret_bool (emay_no (by unfold E.may; dsimp only; omega)), (Below.refl _ _).alloc (Nat.le_refl _) _⟩
    · go_enter Try.func32, Try.ntmps32
      go_wp2
      go_ret
      exact ⟨ret_bool (emay_no (by unfold E.may; dsimp only; omega)), (Below.refl _ _).alloc (Nat.le_refl _) _⟩
  · go_enter Try.func32, Try.ntmps32
    go_wp2
    go_ret
    exact ⟨ret_bool (emay_no (by unfold E.may; dsimp only; omega)), (Below.refl _ _).alloc (Nat.le_refl _) _⟩

/-! ### Loops that only read -/
theorem imax (a b : Int) : max a b = if a < b then b else a := by split <;> omega


set_option maxHeartbeats 1000000 in
theorem rgreat_any (l : List Ent) (A : Option Addr) (n c B : Nat) (w : World) (h : Rd w B 3 A n (EC l)) (hn : n ≤ 70368744177664) (hv : ∀ x ∈ l, x.val.length ≤ 140737488351232) :
    Calls Try.prog 15 #[.slice A n c] w fun e w' => e = .returned (.bool (E.great l)) ∧ w = w' := by
  have hl := h.lenE
  have HL := Lib.hid hl
  have HV := Lib.hid hv
  clear hl hv
  go_enter Try.func15, Try.ntmps15
  go_wp2
  go_loop [3, 4] (fun m i => ∃ k s : Nat, k ≤ n ∧ i = .int .i64 k ∧ s = n + E.sumLen (l.take k) ∧ (k = 0 ∨ s ≤ 4000 + 140737488351232) ∧ m = .int .i64 s) (fun _ i => n - (intOf i).toNat)
  case atStart => exact ⟨0, n, by omega, rfl, by simp [E.sumLen], Or.inl rfl, rfl⟩
  case round =>
    obtain ⟨k, s, hk, rfl, hs, hb, rfl⟩ := hrel
    have hs2 : s ≤ 140737488359424 + 70368744177664 := by
      rcases hb with rfl | hb
      · simp [E.sumLen] at hs; omega
      · omega
    have HS := Lib.hid hs
    clear hs hb
    by_cases hlt : k < n
    · by_cases h4 : s ≤ 4000
      · obtain ⟨b, o, x, rfl, hb, hx, c0, c1, c2⟩ := h.atE hlt
        have hxl := HV.out x (List.mem_of_getElem? hx)
        have hsz : (strB x.val).size = x.val.length := strB_size _
        have HX := Lib.hid hx
        clear hx
        go_wp2
        go_round
        case rel => exact ⟨k + 1, s + x.val.length, by omega, by go_num, by rw [take_more HX.out, E.sumLen_snoc, HS.out]; omega, Or.inr (by omega), by go_num⟩
        case measure => simp [intOf]; omega
      · have hg : E.great l = true := decide_eq_true (by have := E.sumLen_take l k; have := HS.out; have := HL.out; omega)
        go_wp2
        go_ret
        exact ⟨ret_bool (by simp only [hg]), rfl⟩
    · have hg : E.great l = decide (4000 < s) := decide_eq_decide.2 (by have := HS.out; have := HL.out; rw [List.take_of_length_le (by omega)] at *; omega)
      go_wp2
      go_ret
      exact ⟨ret_bool (decide_eq_decide.2 (by omega)), rfl⟩
end Go.Proofs.Ytfgpncbcelafoaa
