/- The reference's Above, Get, Same, Right. -/
import Derived.Test.YtpfkgddcoancnaaERef
namespace Go.Proofs.Ytpfkgddcoancnaa
set_option linter.unusedVariables false
set_option linter.unusedSimpArgs false
open Go.RowKit


/-- what Get answers -/
def getV (o : Option Ent) : Value := .tuple #[match o with | some x => ev x | none => .agg #[.int .i64 0, .int .i64 0, .string ⟨#[]⟩], .bool o.isSome]
set_option maxHeartbeats 1000000 in
theorem rget_any (l : List Ent) (key : Int) (A : Option Addr) (n c B : Nat) (w : World) (h : Rd w B 3 A n (EC l)) (hB : B ≤ w.heap.size) (hn : n * 32 ≤ 140737488351232) :
    Calls Try.prog 62 #[.slice A n c, .int .i64 key] w fun e w' => e = .returned (getV (E.get l key)) ∧ Below w.heap.size w w' := by
  have hl := h.lenE
  have HL := Lib.hid hl
  clear hl
  go_enter Try.func62, Try.ntmps62
  go_wp2_with fail
  have hr := h.alloc hB (.cells #[.int .i64 0, .int .i64 0, .string ⟨#[]⟩] 59)
  have hb0 : Below w.heap.size w (w.alloc (.cells #[.int .i64 0, .int .i64 0, .string ⟨#[]⟩] 59)) := (Below.refl _ _).alloc (Nat.le_refl _) _
  go_wp2
  go_loop [6] (fun i => ∃ k : Nat, k ≤ n ∧ i = .int .i64 k ∧ ∀ y ∈ l.take k, y.key ≠ key) (fun i => n - (intOf i).toNat)
  case atStart => exact ⟨0, by omega, rfl, by simp⟩
  case round =>
    obtain ⟨k, hk, rfl, hno⟩ := hrel
    have HN := Lib.hid hno
    clear hno
    by_cases hlt : k < n
    · obtain ⟨b, o, x, rfl, hb, hx, c0, c1', c2⟩ := hr.atE hlt
      have HX := Lib.hid hx
      clear hx
      by_cases he : x.key = key
      · have hg := E.get_at HX.out he HN.out
        have HG := Lib.hid hg
        have t1 : (x.key == key) = true := beq_iff_eq.2 he
        clear hg he
        go_wp2
        go_returns
        exact ⟨by rw [HG.out]; rfl, by first | exact below_set (below_set (below_set hb0 (Nat.le_refl _) _) (Nat.le_refl _) _) (Nat.le_refl _) _ | exact (Below.refl _ _).alloc (Nat.le_refl _) _⟩
      · have t1 : (x.key == key) = false := beq_eq_false_iff_ne.2 he
        have HE := Lib.hid he
        clear he
        go_wp2
        go_round
        case rel =>
          refine ⟨k + 1, by omega, by go_num, fun y hy => ?_⟩
          rw [take_more HX.out] at hy
          rcases List.mem_append.1 hy with hy | hy
          · exact HN.out y hy
          · obtain rfl : y = x := by simpa using hy
            exact HE.out
        case measure => simp [intOf]; omega
    · have hg : E.get l key = none := E.get_rising_none (by have := HN.out; rwa [List.take_of_length_le (by have := HL.out; omega)] at this)
      have HG := Lib.hid hg
      clear hg
      go_wp2
      go_returns
      exact ⟨by rw [HG.out]; rfl, by first | exact below_set (below_set (below_set hb0 (Nat.le_refl _) _) (Nat.le_refl _) _) (Nat.le_refl _) _ | exact (Below.refl _ _).alloc (Nat.le_refl _) _⟩
end Go.Proofs.Ytpfkgddcoancnaa
