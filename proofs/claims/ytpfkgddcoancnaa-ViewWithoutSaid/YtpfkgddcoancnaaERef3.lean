/- The reference's Same and Right. -/
import Derived.Test.YtpfkgddcoancnaaERef2
import Derived.Laws.StructEq
import Derived.Deep.RegionHeld3
namespace Go.Proofs.Ytpfkgddcoancnaa
set_option linter.unusedVariables false
set_option linter.unusedSimpArgs false
open Go.RowKit

def eqB (x y : Ent) : Bool := decide (x = y)
theorem eq_ent (x y : Ent) (w : World) : (Op.equalIn 10000 59 (.agg #[.int .i64 x.key, .int .i64 x.ver, .string (strB x.val)]) (.agg #[.int .i64 y.key, .int .i64 y.ver, .string (strB y.val)])).run Try.prog w = .ok (eqB x y) w := by
  have h0 := Try.underlying59
  simp [go_sem, run_equalIn_agg]
  obtain ⟨k, v, s⟩ := x
  obtain ⟨k', v', s'⟩ := y
  unfold eqB
  by_cases e1 : k = k'
  · by_cases e2 : v = v'
    · by_cases e3 : s = s'
      · simp [e1, e2, e3]
      · simp [e1, e2, e3]
    · simp [e1, e2]
  · simp [e1]
theorem guard_ent : Try.prog.eqGuardType Try.prog.depth 59 = false := by kernel_rfl

set_option maxHeartbeats 1000000 in
theorem rtsame_any (l l' : List Ent) (A A' : Option Addr) (n n' c c' B B' : Nat) (w : World) (h : Rd w B 3 A n (EC l)) (h' : Rd w B' 3 A' n' (EC l')) (hn : n * 32 ≤ 140737488351232) (hn' : n' * 32 ≤ 140737488351232) :
    Calls Try.prog 37 #[.slice A n c, .slice A' n' c'] w fun e w' => e = .returned (.bool (decide (l = l'))) ∧ ∃ q, w' = w.drewN q := by
  have hl := h.lenE
  have hl' := h'.lenE
  have HL := Lib.hid hl
  have HL' := Lib.hid hl'
  clear hl hl'
  by_cases hnn : n = n'
  · subst hnn
    go_enter Try.func37, Try.ntmps37
    go_wp2
    go_loopw [5] (fun i wr => ∃ k q : Nat, k ≤ n ∧ i = .int .i64 k ∧ l.take k = l'.take k ∧ wr = w.drewN q) (fun i _ => n - (intOf i).toNat)
    case atStart => exact ⟨0, 0, by omega, rfl, rfl, rfl⟩
    case round =>
      obtain ⟨k, q, hk, rfl, hno, rfl⟩ := hrel
      have HN := Lib.hid hno
      clear hno
      by_cases hlt : k < n
      · obtain ⟨b, o, x, e1, hb, hx, c0, c1, c2⟩ := h.atE hlt
        obtain ⟨b', o', y, e2, hb', hy, d0, d1, d2⟩ := h'.atE hlt
        subst e1 e2
        have HX := Lib.hid hx
        have HY := Lib.hid hy
        clear hx hy
        have hk0 : (0 : Int) ≤ (k : Int) := by omega
        have heq := fun w => eq_ent x y w
        have hgd := guard_ent
        rcases hxy : eqB x y
        · have hne : l ≠ l' := fun e => by
            have h1 := HX.out
            rw [e, HY.out] at h1
            injection h1 with h1
            rw [h1] at hxy
            simp [eqB] at hxy
          have HNE := Lib.hid hne
          rw [hxy] at heq
          clear hne hxy
          go_wp2
          go_quiet (fail)
          go_wp2
          go_ret
          exact ⟨ret_bool (decide_eq_false HNE.out).symm, q + nq, by simp⟩
        · have hex : x = y := of_decide_eq_true hxy
          have HXY := Lib.hid hex
          rw [hxy] at heq
          clear hex hxy
          go_wp2
          go_quiet (fail)
          go_wp2
          go_roundw
          case rel => exact ⟨k + 1, q + nq, by omega, by go_num, by rw [take_more HX.out, take_more HY.out, HN.out, HXY.out], by simp⟩
          case measure => simp [intOf]; omega
      · have he : l = l' := by
          have h1 := HN.out
          rwa [List.take_of_length_le (by have := HL.out; omega), List.take_of_length_le (by have := HL'.out; omega)] at h1
        have HE := Lib.hid he
        clear he
        go_wp2
        go_ret
        exact ⟨ret_bool (decide_eq_true HE.out).symm, q, rfl⟩
  · have t1 : ((n : Int) != (n' : Int)) = true := by rw [bne_iff_ne]; omega
    have hne : l ≠ l' := fun e => by
      have h1 := HL.out
      rw [e, HL'.out] at h1
      exact hnn h1.symm
    have HNE := Lib.hid hne
    clear hne hnn
    go_enter Try.func37, Try.ntmps37
    go_wp2
    go_ret
    exact ⟨ret_bool (decide_eq_false HNE.out).symm, 0, rfl⟩

theorem right_snoc {l : List Ent} {x : Ent} : E.right (l ++ [x]) ↔ E.right l ∧ E.may x ∧ ∀ y ∈ l, y.key < x.key := by
  unfold E.right
  rw [E.rising_snoc]
  constructor
  · rintro ⟨h1, h2, h3⟩
    exact ⟨⟨fun y hy => h1 y (by simp [hy]), h2⟩, h1 x (by simp), h3⟩
  · rintro ⟨⟨h1, h2⟩, h3, h4⟩
    refine ⟨fun y hy => ?_, h2, h4⟩
    rcases List.mem_append.1 hy with hy | hy
    · exact h1 y hy
    · obtain rfl : y = x := by simpa using hy
      exact h3
theorem right_take {l : List Ent} (h : E.right l) (k : Nat) : E.right (l.take k) := ⟨fun y hy => h.1 y (List.mem_of_mem_take hy), E.rising_take h.2 k⟩
theorem below_last {l : List Ent} (hr : E.rising l) {k : Nat} {y x : Ent} (hl : k + 1 = l.length) (hy : l[k]? = some y) (hx : y.key < x.key) : ∀ z ∈ l, z.key < x.key := by
  intro z hz
  obtain ⟨i, hi, rfl⟩ := List.mem_iff_getElem.1 hz
  by_cases h : i = k
  · subst h
    rw [List.getElem?_eq_getElem hi] at hy
    injection hy with hy; rw [hy]; exact hx
  · have := E.rising_at hr (show i < k by omega) (List.getElem?_eq_getElem hi) hy
    omega
end Go.Proofs.Ytpfkgddcoancnaa
