/- The reference's Above, Get, Same, Right. -/
import Derived.Test.YtfpfpepejocjfaaERef
namespace Go.Proofs.Ytfpfpepejocjfaa
set_option linter.unusedVariables false
set_option linter.unusedSimpArgs false
open Go.RowKit

set_option maxHeartbeats 1000000 in
theorem raboves_any (l : List Ent) (v : Int) (A : Option Addr) (n c B : Nat) (w : World) (h : Rd w B 3 A n (EC l)) (hB : B ≤ w.heap.size) (hn : n * 32 ≤ 140737488351232) :
    Calls Try.prog 38 #[.slice A n c, .int .i64 v] w fun e w' => ∃ A' c', e = .returned (.slice A' (E.aboves l v).length c') ∧ w'.ownsRow w.heap.size 42 3 (.slice A' (E.aboves l v).length c') (E.aboves l v).length (EC (E.aboves l v)) ∧ Below w.heap.size w w' := by
  have hl := h.lenE
  have HL := Lib.hid hl
  clear hl
  go_enter Try.func38, Try.ntmps38
  go_wp2
  go_loopw [5, 6] (fun s i wr => ∃ (k m : Nat) (A' : Option Addr) (c' : Nat), k ≤ n ∧ i = .int .i64 k ∧ m = (E.aboves (l.take k) v).length ∧ m ≤ k ∧ s = .slice A' m c' ∧
      wr.ownsRow w.heap.size 42 3 (.slice A' m c') m (EC (E.aboves (l.take k) v)) ∧ Below w.heap.size w wr) (fun _ i _ => n - (intOf i).toNat)
  case atStart => exact ⟨0, 0, none, 0, by omega, rfl, rfl, by omega, rfl, World.ownsRow_nil _ _ _ _, Below.refl _ _⟩
  case round =>
    obtain ⟨k, m, A1, c1, hk, rfl, hm, hmk, rfl, hown, hbel⟩ := hrel
    have HM := Lib.hid hm
    have hbs := hbel.size
    clear hm
    by_cases hlt : k < n
    · obtain ⟨b, o, x, e, hb, hx, c0, c1', c2⟩ := (h.below (hbel.mono hB)).atE hlt
      subst e
      have HX := Lib.hid hx
      have ht := take_more hx
      have HT := Lib.hid ht
      clear hx ht
      by_cases hv : v < x.ver
      · have ha : E.aboves (l.take (k + 1)) v = E.aboves (l.take k) v ++ [x] := by rw [HT.out, E.aboves_snoc, if_pos hv]
        have HA := Lib.hid ha
        clear ha
        go_wp2_with (at_builtin; refine app_law enT rfl (.tmp 20) (.tmp 25) rfl w.heap.size rfl (hown.alloc _) rfl (Rd.lit wr _ _ 3 1 rfl) (by simp [Value.oneCell']) (by omega) (by omega) (by simp; omega) ?_; rintro A2 c2 w2 ⟨hown2, hg2, _, _⟩)
        go_roundw
        case rel =>
          refine ⟨k + 1, m + 1, A2, c2, by omega, by go_num, by rw [HA.out, List.length_append, ← HM.out]; rfl, by omega, rfl, ?_, below_app (hbel.alloc hbs _) (hown.alloc _) hg2 (Nat.le_refl _) (by simp; omega)⟩
          rw [HA.out, EC_append]
          exact hown2
        case measure => simp [intOf]; omega
      · have ha : E.aboves (l.take (k + 1)) v = E.aboves (l.take k) v := by rw [HT.out, E.aboves_snoc, if_neg hv]
        have HA := Lib.hid ha
        clear ha
        go_wp2
        go_roundw
        case rel => exact ⟨k + 1, m, A1, c1, by omega, by go_num, by rw [HA.out]; exact HM.out, by omega, rfl, by rw [HA.out]; exact hown, hbel⟩
        case measure => simp [intOf]; omega
    · have ht : l.take k = l := List.take_of_length_le (by have := HL.out; omega)
      have HT := Lib.hid ht
      clear ht
      go_wp2
      go_ret
      have hm := HM.out
      rw [HT.out] at hm hown
      subst hm
      exact ⟨A1, c1, rfl, hown, hbel⟩

/-- what Get answers -/
def getV (o : Option Ent) : Value := .tuple #[match o with | some x => ev x | none => .agg #[.int .i64 0, .int .i64 0, .string ⟨#[]⟩], .bool o.isSome]
set_option maxHeartbeats 1000000 in
theorem rget_any (l : List Ent) (key : Int) (A : Option Addr) (n c B : Nat) (w : World) (h : Rd w B 3 A n (EC l)) (hB : B ≤ w.heap.size) (hn : n * 32 ≤ 140737488351232) :
    Calls Try.prog 54 #[.slice A n c, .int .i64 key] w fun e w' => e = .returned (getV (E.get l key)) ∧ Below w.heap.size w w' := by
  have hl := h.lenE
  have HL := Lib.hid hl
  clear hl
  go_enter Try.func54, Try.ntmps54
  go_wp2_with fail
  have hr := h.alloc hB (.cells #[.int .i64 0, .int .i64 0, .string ⟨#[]⟩] 42)
  have hb0 : Below w.heap.size w (w.alloc (.cells #[.int .i64 0, .int .i64 0, .string ⟨#[]⟩] 42)) := (Below.refl _ _).alloc (Nat.le_refl _) _
  go_wp2
  go_loop [6] (fun i => ∃ k : Nat, k ≤ n ∧ i = .int .i64 k ∧ ∀ y ∈ l.take k, y.key ≠ key) (fun i => n - (intOf i).toNat)
  case atStart => exact ⟨0, by omega, rfl, by simp⟩
  case round =>
    obtain ⟨k, hk, rfl, hno⟩ := hrel
    have HN := Lib.hid hno
    clear hno
    by_cases hlt : k < n
    · obtain ⟨b, o, x, rfl, hb, hx, c0, c1', c2⟩ := hr.atE hlt
      have HX := Lib.hid hx
      clear hx
      by_cases he : x.key = key
      · have hg := E.get_at HX.out he HN.out
        have HG := Lib.hid hg
        have t1 : (x.key == key) = true := beq_iff_eq.2 he
        clear hg he
        go_wp2
        go_returns
        exact ⟨by rw [HG.out]; rfl, by first | exact below_set (below_set (below_set hb0 (Nat.le_refl _) _) (Nat.le_refl _) _) (Nat.le_refl _) _ | exact (Below.refl _ _).alloc (Nat.le_refl _) _⟩
      · have t1 : (x.key == key) = false := beq_eq_false_iff_ne.2 he
        have HE := Lib.hid he
        clear he
        go_wp2
        go_round
        case rel =>
          refine ⟨k + 1, by omega, by go_num, fun y hy => ?_⟩
          rw [take_more HX.out] at hy
          rcases List.mem_append.1 hy with hy | hy
          · exact HN.out y hy
          · obtain rfl : y = x := by simpa using hy
            exact HE.out
        case measure => simp [intOf]; omega
    · have hg : E.get l key = none := E.get_rising_none (by have := HN.out; rwa [List.take_of_length_le (by have := HL.out; omega)] at this)
      have HG := Lib.hid hg
      clear hg
      go_wp2
      go_returns
      exact ⟨by rw [HG.out]; rfl, by first | exact below_set (below_set (below_set hb0 (Nat.le_refl _) _) (Nat.le_refl _) _) (Nat.le_refl _) _ | exact (Below.refl _ _).alloc (Nat.le_refl _) _⟩
end Go.Proofs.Ytfpfpepejocjfaa
