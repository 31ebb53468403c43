/- The document's choices: one of a list, has it a number, a number more, a list without one. -/
import Derived.Test.YtlafmonfhkgcfaaCMath
import Derived.Test.YtlafmonfhkgcfaaCInts
namespace Go.Proofs.Ytlafmonfhkgcfaa
set_option linter.unusedVariables false
set_option linter.unusedSimpArgs false
open Go.RowKit
/-- ints that may be read -/
def ReadI (l : List Int) (w : World) (e : Ending) (w' : World) : Prop := (∃ (A : Option Addr) (n c : Nat), e = .returned (.slice A n c) ∧ Rd w' w'.heap.size 1 A n (I l) ∧ n ≤ c ∧ c ≤ 9223372036854775807) ∧ Below w.heap.size w w'
def BoolC (b : Bool) (w : World) (e : Ending) (w' : World) : Prop := e = .returned (.bool b) ∧ Below w.heap.size w w'
def IntBC (x : Int) (b : Bool) (w : World) (e : Ending) (w' : World) : Prop := e = .returned (.tuple #[.int .i64 x, .bool b]) ∧ Below w.heap.size w w'
/-- the one that is chosen, 0 of none -/
def cfirst (l : List Int) (p : Nat) : Int := if l = [] then 0 else Ch.one l p
def csome (l : List Int) : Bool := decide (l ≠ [])
theorem cfirst_one {l : List Int} (h : l ≠ []) (p : Nat) : cfirst l p = Ch.one l p := if_neg h
theorem one_at {l : List Int} {p m : Nat} {x : Int} (hl : l ≠ []) (hm : p % l.length = m) (hx : l[m]? = some x) : Ch.one l p = x := by
  unfold Ch.one
  rw [hm, List.getD_eq_getElem?_getD, hx]; rfl
theorem tmod_cast (p n : Nat) : (p : Int).tmod (n : Int) = ((p % n : Nat) : Int) := by
  rw [Int.tmod_eq_emod_of_nonneg (by omega)]; rfl
theorem rcone_any (l : List Int) (A : Option Addr) (n c B : Nat) (p : Nat) (hp : p ≤ 4294967295) (w : World) (h : Rd w B 1 A n (I l)) (hn : n ≤ 1000000) :
    Calls Try.prog 10 #[.slice A n c, .int .u32 (p : Int)] w (IntBC (cfirst l p) (csome l) w) := by
  have hl : l.length = n := by have := h.len1; rwa [I_length] at this
  by_cases h0 : n = 0
  · subst h0
    obtain rfl : l = [] := List.eq_nil_of_length_eq_zero hl
    clear h hl
    go_enter Try.func10, Try.ntmps10
    go_wp2
    go_ret2
    exact ⟨rfl, Below.refl _ _⟩
  · have hne : l ≠ [] := fun e => h0 (by rw [← hl, e]; rfl)
    obtain ⟨m, hm⟩ : ∃ m, p % n = m := ⟨_, rfl⟩
    have hmn : m < n := by rw [← hm]; exact Nat.mod_lt _ (by omega)
    obtain ⟨b, o, x, e1, hb, hx, c0⟩ := h.atI hmn
    subst e1
    have E : Hid (cfirst l p = x) := Lib.hid (by rw [cfirst_one hne]; exact one_at hne (by rw [hl]; exact hm) hx)
    have E2 : Hid (csome l = true) := Lib.hid (decide_eq_true hne)
    have t0 : ((n : Int) == 0) = false := by simp; omega
    have hw : IntKind.i64.wrap (p : Int) = (p : Int) := IntWalk.i64_in _ (by omega)
    have ht : (p : Int).tmod (n : Int) = (m : Int) := by rw [tmod_cast, hm]
    generalize (p : Int) = z at *
    have hm0 : (0 : Int) ≤ (m : Int) := by omega
    have hm1 : (m : Int) < (n : Int) := by omega
    have hn0 : ¬ (n : Int) = 0 := by omega
    clear h hl hp hm hx hne
    go_enter Try.func10, Try.ntmps10
    go_wp2
    go_ret2
    exact ⟨by rw [E.out, E2.out]; rfl, Below.refl _ _⟩
theorem rchas_any (l : List Int) (x : Int) (A : Option Addr) (n c B : Nat) (w : World) (h : Rd w B 1 A n (I l)) (hn : n ≤ 1000000) :
    Calls Try.prog 17 #[.slice A n c, .int .i64 x] w fun e w' => e = .returned (.bool (decide (x ∈ l))) ∧ w = w' := by
  have hl : l.length = n := by have := h.len1; rwa [I_length] at this
  have HL := Lib.hid hl
  clear hl
  go_enter Try.func17, Try.ntmps17
  go_wp2
  go_loop [5] (fun i => ∃ k : Nat, k ≤ n ∧ i = .int .i64 k ∧ x ∉ l.take k) (fun i => n - (intOf i).toNat)
  case atStart => exact ⟨0, by omega, rfl, by simp⟩
  case round =>
    obtain ⟨k, hk, rfl, hno⟩ := hrel
    have HN := Lib.hid hno
    clear hno
    by_cases hlt : k < n
    · obtain ⟨b, o, y, e1, hb, hx, c0⟩ := h.atI hlt
      subst e1
      have HX := Lib.hid hx
      clear hx
      have hk0 : (0 : Int) ≤ (k : Int) := by omega
      by_cases hxy : y = x
      · subst hxy
        have HM : Hid (decide (y ∈ l) = true) := Lib.hid (decide_eq_true (List.mem_of_getElem? HX.out))
        go_wp2
        go_ret
        exact ⟨ret_bool HM.out.symm, rfl⟩
      · have t1 : (y == x) = false := beq_eq_false_iff_ne.2 hxy
        have HNE := Lib.hid hxy
        clear hxy
        go_wp2
        go_round
        case rel => exact ⟨k + 1, by omega, by go_num, by rw [take_more HX.out]; intro hm; rcases List.mem_append.1 hm with hm | hm; exact HN.out hm; (have h2 : x = y := (by simpa using hm)); exact HNE.out h2.symm⟩
        case measure => simp [intOf]; omega
    · have HM : Hid (decide (x ∈ l) = false) := Lib.hid (decide_eq_false (by have h1 := HN.out; rwa [List.take_of_length_le (by have := HL.out; omega)] at h1))
      go_wp2
      go_ret
      exact ⟨ret_bool HM.out.symm, rfl⟩
theorem own_read {w : World} {base e n c : Nat} {A : Option Addr} {l : List Int} (h : w.ownsRow base e 1 (.slice A n c) n (I l)) : Rd w w.heap.size 1 A n (I l) ∧ n ≤ c ∧ c ≤ 9223372036854775807 := ⟨Rd.of_own h, own_cap h⟩
set_option maxHeartbeats 1000000 in
theorem rcadd_any (l : List Int) (x : Int) (A : Option Addr) (n c : Nat) (w : World) (h : Rd w w.heap.size 1 A n (I l)) (hc : n ≤ c ∧ c ≤ 9223372036854775807) (hn : n ≤ 1000000) :
    Calls Try.prog 22 #[.slice A n c, .int .i64 x] w (ReadI (Ch.add l x) w) := by
  have HC := Lib.hid hc
  clear hc
  go_enter Try.func22, Try.ntmps22
  go_wp2_with fail
  refine (rchas_any l x A n c _ w h hn).mono ?_
  rintro _ w2 ⟨rfl, rfl⟩
  by_cases hx : x ∈ l
  · have e : Hid (Ch.add l x = l) := Lib.hid (by unfold Ch.add; rw [if_pos hx])
    rw [decide_eq_true hx]
    clear hx
    go_wp2
    go_ret
    exact ⟨⟨A, n, c, rfl, by rw [e.out]; exact h, HC.out⟩, Below.refl _ _⟩
  · have e : Hid (Ch.add l x = l ++ [x]) := Lib.hid (by unfold Ch.add; rw [if_neg hx])
    rw [decide_eq_false hx]
    clear hx
    go_wp2_with (first
      | (at_builtin; refine app_law0 i64C rfl (.tmp 9) (.tmp 10) rfl w.heap.size rfl (litC w) rfl (h.alloc (Nat.le_refl _) _) (I_oneC l) (by omega) (by omega) (by simp) ?_; rintro A1 c1 w1 ⟨hown1, hg1, _, _⟩; have b1 := below_app ((Below.refl _ _).alloc (Nat.le_refl _) (.cells #[] 3)) (litC w) hg1 (Nat.le_refl _) (by simp))
      | (at_builtin; refine app_law i64C rfl (.tmp 11) (.tmp 13) rfl w.heap.size rfl (hown1.alloc _) rfl (Rd.one _ _ _) (one_int _ _) (by omega) (by omega) (by have := b1.size; simp; omega) ?_; rintro A2 c2 w2 ⟨hown2, hg2, _, holdw2⟩))
    go_ret
    have b2 := below_app (b1.alloc b1.size _) (hown1.alloc _) hg2 (Nat.le_refl _) (by have := b1.size; simp; omega)
    refine ⟨⟨A2, n + 1, c2, rfl, ?_, own_cap hown2⟩, b2⟩
    rw [e.out, I_appC]
    rw [List.nil_append] at hown2
    exact Rd.of_own hown2
set_option maxHeartbeats 1000000 in
theorem rcwithout_any (l : List Int) (x : Int) (A : Option Addr) (n c : Nat) (w : World) (h : Rd w w.heap.size 1 A n (I l)) (hn : n ≤ 1000000) :
    Calls Try.prog 15 #[.slice A n c, .int .i64 x] w (ReadI (Ch.without l x) w) := by
  have hl : l.length = n := by have := h.len1; rwa [I_length] at this
  have HL := Lib.hid hl
  clear hl
  go_enter Try.func15, Try.ntmps15
  go_wp2
  go_loopw [5, 6] (fun v i wr => ∃ k m A1 c1, k ≤ n ∧ m ≤ k ∧ v = .slice A1 m c1 ∧ i = .int .i64 (k : Int) ∧ wr.ownsRow w.heap.size 3 1 (.slice A1 m c1) m (I (Ch.without (l.take k) x)) ∧ Below w.heap.size w wr) (fun _ i _ => n - (intOf i).toNat)
  case atStart => exact ⟨0, 0, none, 0, by omega, by omega, rfl, rfl, World.ownsRow_nil _ _ _ _, Below.refl _ _⟩
  case round =>
    obtain ⟨k, m, A1, c1, hk, hm, rfl, rfl, hown, hbel⟩ := hrel
    have hbs := hbel.size
    by_cases hlt : k < n
    · obtain ⟨b, o, y, e1, hb, hx, c0⟩ := (h.belowH hbel).atI hlt
      subst e1
      have HTK := Lib.hid (Ch.without_take (n := x) hx)
      have hk0 : (0 : Int) ≤ (k : Int) := by omega
      clear hx
      by_cases hxy : y = x
      · have t1 : (y != x) = false := by simp [hxy]
        have HE := Lib.hid hxy
        have HO := Lib.hid hown
        clear hxy hown
        go_wp2
        go_roundw
        case rel => exact ⟨k + 1, m, A1, c1, by omega, by omega, rfl, by go_num, by rw [HTK.out, if_pos HE.out]; exact HO.out, hbel⟩
        case measure => simp [intOf]; omega
      · have t1 : (y != x) = true := bne_iff_ne.2 hxy
        have HE := Lib.hid hxy
        clear hxy
        go_wp2_with (at_builtin; refine app_law i64C rfl (.tmp 19) (.tmp 24) rfl w.heap.size rfl (hown.alloc _) rfl (Rd.one _ _ _) (one_int _ _) (by omega) (by omega) (by simp; omega) ?_; rintro A2 c2 w2 ⟨hown2, hg2, _, holdw2⟩)
        go_roundw
        case rel =>
          refine ⟨k + 1, m + 1, A2, c2, by omega, by omega, rfl, by go_num, ?_, below_app (hbel.alloc (by omega) _) (hown.alloc _) hg2 (Nat.le_refl _) (by simp; omega)⟩
          rw [HTK.out, if_neg HE.out, I_appC]
          exact hown2
        case measure => simp [intOf]; omega
    · obtain rfl : k = n := by omega
      rw [List.take_of_length_le (by have := HL.out; omega)] at hown
      have HO := Lib.hid hown
      clear hown
      go_wp2
      go_ret
      exact ⟨⟨A1, m, c1, rfl, Rd.of_own HO.out, own_cap HO.out⟩, hbel⟩
end Go.Proofs.Ytlafmonfhkgcfaa
