/- Package service: is a table up; the place for one more. -/
import Derived.Test.YtfgpncbcelafoaaYC6
import Derived.Test.YtfgpncbcelafoaaECode4
namespace Go.Proofs.Ytfgpncbcelafoaa
set_option linter.unusedVariables false
set_option linter.unusedSimpArgs false
open Go.RowKit
theorem there_some {l : List Ent} {k : Int} {x : Ent} (h : E.get l k = some x) : Y.there l k = true ∧ Y.valOf l k = x.val := by
  unfold Y.there Y.valOf
  rw [h]
  exact ⟨rfl, rfl⟩
theorem there_none {l : List Ent} {k : Int} (h : E.get l k = none) : Y.there l k = false := by
  unfold Y.there
  rw [h]
  rfl
set_option maxHeartbeats 1000000 in
theorem yup_any (l : List Ent) (A : Option Addr) (n c : Nat) (w : World) (h : Rd w w.heap.size 3 A n (EC l)) (hn : n ≤ 1000000) : Calls Try.prog 21 #[.slice A n c] w (BoolB (Y.up l) w) := by
  go_enter Try.func21, Try.ntmps21
  go_wp2_with fail
  refine (get_any l 0 A n c w.heap.size w h (Nat.le_refl _) (by omega)).mono ?_
  rintro _ w1 ⟨rfl, b⟩
  cases hg : E.get l 0 with
  | none =>
    have E : Hid (Y.up l = false) := Lib.hid (by unfold Y.up; rw [there_none hg]; rfl)
    have b2 := b.alloc b.size (.cells #[.int .i64 0, .int .i64 0, .string ⟨#[]⟩] 40)
    clear hg
    simp only [getV]
    go_wp2
    go_ret
    exact ⟨ret_bool E.out.symm, b2⟩
  | some x =>
    obtain ⟨key, ver, val⟩ := x
    have b2 := b.alloc b.size (.cells #[.int .i64 key, .int .i64 ver, .string (strB val)] 40)
    have E : Hid (Y.up l = decide (val = [117, 112])) := Lib.hid (by unfold Y.up; rw [(there_some hg).1, (there_some hg).2]; rfl)
    have s0 : (strB val == strB [117, 112]) = decide (val = [117, 112]) := strB_bqY _ _
    clear hg
    simp only [getV, ev]
    by_cases hv : val = [117, 112]
    · rw [decide_eq_true hv] at s0
      have s1 : (strB val == (⟨#[117, 112]⟩ : ByteArray)) = true := s0
      have s2 : (val == [117, 112]) = true := beq_iff_eq.2 hv
      have Z : Hid (Y.up l = true) := Lib.hid (E.out.trans (decide_eq_true hv))
      clear s0 hv E
      go_wp2
      go_ret
      exact ⟨ret_bool Z.out.symm, b2⟩
    · rw [decide_eq_false hv] at s0
      have s1 : (strB val == (⟨#[117, 112]⟩ : ByteArray)) = false := s0
      have s2 : (val == [117, 112]) = false := beq_eq_false_iff_ne.2 hv
      have Z : Hid (Y.up l = false) := Lib.hid (E.out.trans (decide_eq_false hv))
      clear s0 hv E
      go_wp2
      go_ret
      exact ⟨ret_bool Z.out.symm, b2⟩
/-- how far places are looked at -/
def PlA (W : World) (l : List Ent) (s4 s5 s6 : Value) (wr : World) : Prop := ∃ (k f : Nat) (em : Int) (ok : Bool), k + f = 12 ∧ 3 ≤ k ∧ s6 = .int .i64 (k : Int) ∧ s4 = .int .i64 em ∧ s5 = .bool ok ∧
  Hid (Y.gap l 9 3 = Y.gap l f k ∧ Y.blank l 9 3 = (if ok = true then (em, true) else Y.blank l f k) ∧ (ok = false → em = 0)) ∧ Below W.heap.size W wr
set_option maxHeartbeats 2000000 in
set_option maxRecDepth 20000 in
theorem yplace_any (l : List Ent) (A : Option Addr) (n c : Nat) (w : World) (h : Rd w w.heap.size 3 A n (EC l)) (hn : n ≤ 1000000) : Calls Try.prog 18 #[.slice A n c] w (KeyR (Y.place l) w) := by
  go_enter Try.func18, Try.ntmps18
  go_wp2
  go_loopw [4, 5, 6] (PlA w l) (fun _ _ i _ => 12 - (intOf i).toNat)
  case atStart => exact ⟨3, 9, 0, false, by omega, by omega, rfl, rfl, rfl, Lib.hid ⟨rfl, rfl, fun _ => rfl⟩, Below.refl _ _⟩
  case round =>
    obtain ⟨k, f, em, ok, hkf, hk3, rfl, rfl, rfl, H, b⟩ := hrel
    have hk0 : (0 : Int) ≤ (k : Int) := by omega
    by_cases hk : k < 12
    · have g1 : decide ((k : Int) < 12) = true := decide_eq_true (by omega)
      have g1' : decide (k < 12) = true := decide_eq_true hk
      obtain ⟨f', rfl⟩ : ∃ f', f = f' + 1 := ⟨f - 1, by omega⟩
      go_wp2_with fail
      refine (get_any l (k : Int) A n c wr.heap.size wr (h.belowH b) (Nat.le_refl _) (by omega)).mono ?_
      rintro _ w1 ⟨rfl, hb⟩
      replace b := b.trans (hb.mono b.size)
      clear hb
      cases hg : E.get l (k : Int) with
      | none =>
        have E : Hid (Y.place l = ((k : Int), true)) := Lib.hid (by
          have e : Y.gap l 9 3 = ((k : Int), true) := by rw [H.out.1]; show (if Y.there l k = false then _ else _) = _; rw [if_pos (there_none hg)]
          unfold Y.place
          rw [e]
          rfl)
        have b2 := b.alloc b.size (.cells #[.int .i64 0, .int .i64 0, .string ⟨#[]⟩] 40)
        clear hg H
        simp only [getV]
        go_wp2
        go_ret2
        exact ⟨by rw [E.out]; rfl, b2⟩
      | some x =>
        obtain ⟨key, ver, val⟩ := x
        have b2 := b.alloc b.size (.cells #[.int .i64 key, .int .i64 ver, .string (strB val)] 40)
        have hgap : Y.gap l (f' + 1) (k : Int) = Y.gap l f' ((k + 1 : Nat) : Int) := by
          show (if Y.there l k = false then _ else Y.gap l f' ((k : Int) + 1)) = _
          rw [if_neg (by rw [(there_some hg).1]; decide)]
          rfl
        have hbl : Y.blank l (f' + 1) (k : Int) = if val = [] then ((k : Int), true) else Y.blank l f' ((k + 1 : Nat) : Int) := by
          show (if Y.valOf l k = [] then ((k : Int), true) else Y.blank l f' ((k : Int) + 1)) = _
          rw [(there_some hg).2]
          rfl
        have HG := Lib.hid (And.intro hgap hbl)
        clear hg hgap hbl
        simp only [getV, ev]
        by_cases hv : val = []
        · have q1 : val.isEmpty = true := by rw [hv]; rfl
          have q2 : (strB val == (⟨#[]⟩ : ByteArray)) = true := by rw [hv]; rfl
          cases ok
          · have N : Hid (Y.gap l 9 3 = Y.gap l f' ((k + 1 : Nat) : Int) ∧ Y.blank l 9 3 = (if true = true then ((k : Int), true) else Y.blank l f' ((k + 1 : Nat) : Int)) ∧ (true = false → (k : Int) = 0)) := Lib.hid ⟨H.out.1.trans HG.out.1, by rw [H.out.2.1, if_neg (by decide), HG.out.2, if_pos hv]; rfl, fun h => by cases h⟩
            clear hv H HG
            go_wp2
            go_roundw
            case rel => exact ⟨k + 1, f', (k : Int), true, by omega, by omega, by go_num, rfl, rfl, N, b2⟩
            case measure => simp [intOf]; omega
          · have N : Hid (Y.gap l 9 3 = Y.gap l f' ((k + 1 : Nat) : Int) ∧ Y.blank l 9 3 = (if true = true then (em, true) else Y.blank l f' ((k + 1 : Nat) : Int)) ∧ (true = false → em = 0)) := Lib.hid ⟨H.out.1.trans HG.out.1, by rw [H.out.2.1]; rfl, fun h => by cases h⟩
            clear hv H HG
            go_wp2
            go_roundw
            case rel => exact ⟨k + 1, f', em, true, by omega, by omega, by go_num, rfl, rfl, N, b2⟩
            case measure => simp [intOf]; omega
        · have q1 : val.isEmpty = false := by cases val with | nil => exact absurd rfl hv | cons a b => rfl
          have q2 : (strB val == (⟨#[]⟩ : ByteArray)) = false := by have h1 := strB_bqY val []; rw [decide_eq_false hv] at h1; exact h1
          have N : Hid (Y.gap l 9 3 = Y.gap l f' ((k + 1 : Nat) : Int) ∧ Y.blank l 9 3 = (if ok = true then (em, true) else Y.blank l f' ((k + 1 : Nat) : Int)) ∧ (ok = false → em = 0)) := Lib.hid ⟨H.out.1.trans HG.out.1, by rw [H.out.2.1, HG.out.2, if_neg hv], H.out.2.2⟩
          clear hv H HG
          go_wp2
          go_roundw
          case rel => exact ⟨k + 1, f', em, ok, by omega, by omega, by go_num, rfl, rfl, N, b2⟩
          case measure => simp [intOf]; omega
    · have g1 : decide ((k : Int) < 12) = false := decide_eq_false (by omega)
      have g1' : decide (k < 12) = false := decide_eq_false hk
      obtain rfl : f = 0 := by omega
      have E : Hid (Y.place l = (em, ok)) := Lib.hid (by
        have e : Y.gap l 9 3 = (0, false) := H.out.1
        unfold Y.place
        rw [e, if_neg (by decide), H.out.2.1]
        cases ok
        · rw [H.out.2.2 rfl]; rfl
        · rfl)
      clear H
      go_wp2
      go_ret2
      exact ⟨by rw [E.out]; rfl, b⟩
end Go.Proofs.Ytfgpncbcelafoaa
