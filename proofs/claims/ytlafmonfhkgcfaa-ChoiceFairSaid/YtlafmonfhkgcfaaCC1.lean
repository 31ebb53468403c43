/- Package choice: where a draw falls, one of a list, has it a number, a number more. -/
import Derived.Test.YtlafmonfhkgcfaaCRef3
namespace Go.Proofs.Ytlafmonfhkgcfaa
set_option linter.unusedVariables false
set_option linter.unusedSimpArgs false
open Go.RowKit
theorem cplace_any (p n m : Nat) (z y : Int) (hz : (p : Int) = z) (hy : (n : Int) = y) (hp : p ≤ 4294967295) (hn : n ≠ 0) (hm : p % n = m) (w : World) :
    Calls Try.prog 20 #[.int .u32 z, .int .i64 y] w fun e w' => e = .returned (.int .i64 (m : Int)) ∧ w = w' := by
  have hw : IntKind.i64.wrap z = z := IntWalk.i64_in _ (by omega)
  have ht : z.tmod y = (m : Int) := by rw [← hz, ← hy, tmod_cast, hm]
  have hn0 : ¬ y = 0 := by omega
  have hm1 : (m : Int) ≤ 4294967295 := by
    have : m ≤ p := by rw [← hm]; exact Nat.mod_le _ _
    omega
  have hm0 : (0 : Int) ≤ (m : Int) := by omega
  have hwm : IntKind.i64.wrap (m : Int) = (m : Int) := IntWalk.i64_in _ (by omega)
  have hwm2 : wrap64 (m : Int) = (m : Int) := by unfold wrap64; omega
  generalize (m : Int) = g at *
  clear hz hy hp hn hm
  go_enter Try.func20, Try.ntmps20
  go_wp2
  go_ret
  exact ⟨rfl, rfl⟩
theorem cone_any (l : List Int) (A : Option Addr) (n c : Nat) (p : Nat) (hp : p ≤ 4294967295) (w : World) (h : Rd w w.heap.size 1 A n (I l)) (hn : n ≤ 1000) :
    Calls Try.prog 9 #[.slice A n c, .int .u32 (p : Int)] w (IntBC (cfirst l p) (csome l) w) := by
  have hl : l.length = n := by have := h.len1; rwa [I_length] at this
  by_cases h0 : n = 0
  · subst h0
    obtain rfl : l = [] := List.eq_nil_of_length_eq_zero hl
    clear h hl
    go_enter Try.func9, Try.ntmps9
    go_wp2
    go_ret2
    exact ⟨rfl, Below.refl _ _⟩
  · have hne : l ≠ [] := fun e => h0 (by rw [← hl, e]; rfl)
    obtain ⟨m, hm⟩ : ∃ m, p % n = m := ⟨_, rfl⟩
    have hmn : m < n := by rw [← hm]; exact Nat.mod_lt _ (by omega)
    obtain ⟨b, o, x, e1, hb, hx, c0⟩ := h.atI hmn
    subst e1
    have E : Hid (cfirst l p = x) := Lib.hid (by rw [cfirst_one hne]; exact one_at hne (by rw [hl]; exact hm) hx)
    have E2 : Hid (csome l = true) := Lib.hid (decide_eq_true hne)
    have t0 : ((n : Int) == 0) = false := by simp; omega
    obtain ⟨z, hz⟩ : ∃ z, (p : Int) = z := ⟨_, rfl⟩
    rw [hz]
    have Z := Lib.hid hz
    have M := Lib.hid hm
    have hm0 : (0 : Int) ≤ (m : Int) := by omega
    have hm1 : (m : Int) < (n : Int) := by omega
    clear h hl hx hne hz hm
    go_enter Try.func9, Try.ntmps9
    go_wp2_with fail
    refine (cplace_any p n m z (n : Int) Z.out rfl hp h0 M.out _).mono ?_
    rintro _ v1 ⟨rfl, rfl⟩
    go_wp2
    go_ret2
    exact ⟨by rw [E.out, E2.out]; rfl, Below.refl _ _⟩
theorem cone0_at {l : List Int} {p : Nat} {z x : Int} {b : Bool} (hz : (p : Int) = z) (e : cfirst l p = x) (e' : csome l = b) (A : Option Addr) (n c : Nat) (hp : p ≤ 4294967295) (w : World) (h : Rd w w.heap.size 1 A n (I l)) (hn : n ≤ 1000) :
    Calls Try.prog 9 #[.slice A n c, .int .u32 z] w (IntBC x b w) := by subst hz e e'; exact cone_any l A n c p hp w h hn
theorem cindex_any (l : List Int) (x : Int) (A : Option Addr) (n c B : Nat) (w : World) (h : Rd w B 1 A n (I l)) (hn : n ≤ 1000000) :
    Calls Try.prog 31 #[.slice A n c, .int .i64 x] w fun e w' => (∃ i : Int, e = .returned (.int .i64 i) ∧ decide (0 ≤ i) = decide (x ∈ l) ∧ -1 ≤ i) ∧ w = w' := by
  have hl : l.length = n := by have := h.len1; rwa [I_length] at this
  have HL := Lib.hid hl
  clear hl
  go_enter Try.func31, Try.ntmps31
  go_wp2
  go_loop [8] (fun i => ∃ k : Nat, k ≤ n ∧ i = .int .i64 k ∧ x ∉ l.take k) (fun i => n - (intOf i).toNat)
  case atStart => exact ⟨0, by omega, rfl, by simp⟩
  case round =>
    obtain ⟨k, hk, rfl, hno⟩ := hrel
    have HN := Lib.hid hno
    clear hno
    by_cases hlt : k < n
    · obtain ⟨b, o, y, e1, hb, hx, c0⟩ := h.atI hlt
      subst e1
      have HX := Lib.hid hx
      clear hx
      have hk0 : (0 : Int) ≤ (k : Int) := by omega
      by_cases hxy : x = y
      · subst hxy
        have HM : Hid (decide (x ∈ l) = true) := Lib.hid (decide_eq_true (List.mem_of_getElem? HX.out))
        go_wp2
        go_ret
        exact ⟨⟨_, rfl, iff_of_true (by omega) (of_decide_eq_true HM.out), by omega⟩, rfl⟩
      · have t1 : (x == y) = false := beq_eq_false_iff_ne.2 hxy
        have HNE := Lib.hid hxy
        clear hxy
        go_wp2
        go_round
        case rel => exact ⟨k + 1, by omega, by go_num, by rw [take_more HX.out]; intro hm; rcases List.mem_append.1 hm with hm | hm; exact HN.out hm; (have h2 : x = y := (by simpa using hm)); exact HNE.out h2⟩
        case measure => simp [intOf]; omega
    · have HM : Hid (decide (x ∈ l) = false) := Lib.hid (decide_eq_false (by have h1 := HN.out; rwa [List.take_of_length_le (by have := HL.out; omega)] at h1))
      go_wp2
      go_ret
      exact ⟨⟨_, rfl, iff_of_false (by omega) (of_decide_eq_false HM.out), by omega⟩, rfl⟩
theorem ccontains_any (l : List Int) (x : Int) (A : Option Addr) (n c B : Nat) (w : World) (h : Rd w B 1 A n (I l)) (hn : n ≤ 1000000) :
    Calls Try.prog 26 #[.slice A n c, .int .i64 x] w fun e w' => e = .returned (.bool (decide (x ∈ l))) ∧ w = w' := by
  go_enter Try.func26, Try.ntmps26
  go_wp2_with fail
  refine (cindex_any l x A n c B w h hn).mono ?_
  rintro e w2 ⟨⟨i, rfl, hd, hi⟩, rfl⟩
  have HD := Lib.hid hd
  clear hd
  go_wp2
  go_ret
  exact ⟨ret_bool (by rw [← HD.out]), rfl⟩
theorem chas0_any (l : List Int) (x : Int) (A : Option Addr) (n c B : Nat) (w : World) (h : Rd w B 1 A n (I l)) (hn : n ≤ 1000000) :
    Calls Try.prog 16 #[.slice A n c, .int .i64 x] w fun e w' => e = .returned (.bool (decide (x ∈ l))) ∧ w = w' := by
  go_enter Try.func16, Try.ntmps16
  go_wp2_with fail
  refine (ccontains_any l x A n c B w h hn).mono ?_
  rintro e w2 ⟨rfl, rfl⟩
  go_wp2
  go_ret
  exact ⟨rfl, rfl⟩
theorem chas_any (l : List Int) (x : Int) (A : Option Addr) (n c : Nat) (w : World) (h : Rd w w.heap.size 1 A n (I l)) (hn : n ≤ 1000) :
    Calls Try.prog 16 #[.slice A n c, .int .i64 x] w fun e w' => e = .returned (.bool (decide (x ∈ l))) ∧ ∃ q, w' = w.drewN q :=
  (chas0_any l x A n c _ w h (by omega)).mono fun e w' h => ⟨h.1, 0, h.2.symm⟩
theorem chas0_at {l : List Int} {x : Int} {b : Bool} (e : decide (x ∈ l) = b) (A : Option Addr) (n c : Nat) (w : World) (h : Rd w w.heap.size 1 A n (I l)) (hn : n ≤ 1000000) :
    Calls Try.prog 16 #[.slice A n c, .int .i64 x] w fun e w' => e = .returned (.bool b) ∧ w = w' := by subst e; exact chas0_any l x A n c _ w h hn
theorem own_belowC {w w' : World} {base e size n : Nat} {v : Value} {xs : List Value} (h : w.ownsRow base e size v n xs) (hb : Below w.heap.size w w') : w'.ownsRow base e size v n xs := by
  refine ⟨h.1, ?_⟩
  rcases h.2 with h0 | ⟨g, cap, cur, hv, hbg, hg, rest⟩
  · exact .inl h0
  · exact .inr ⟨g, cap, cur, hv, hbg, (hb.block g (lt_of_block hg)).trans hg, rest⟩
/-- a list's choice more -/
def jn (out l : List Int) (p : Nat) : List Int := if l = [] then out else Ch.add out (Ch.one l p)
/-- ints of the caller's own, and more -/
def OwnI (l : List Int) (base : Nat) (w : World) (e : Ending) (w' : World) : Prop :=
  ∃ (A : Option Addr) (n c : Nat), e = .returned (.slice A n c) ∧ l.length = n ∧ w'.ownsRow base 3 1 (.slice A n c) n (I l) ∧ Below base w w'
set_option maxHeartbeats 1000000 in
theorem cjoin_any (out l : List Int) (p base : Nat) (A A2 : Option Addr) (n c n2 c2 : Nat) (hp : p ≤ 4294967295) (w : World) (h : w.ownsRow base 3 1 (.slice A n c) n (I out)) (hb : base ≤ w.heap.size) (h2 : Rd w w.heap.size 1 A2 n2 (I l)) (hn : n ≤ 1000) (hn2 : n2 ≤ 1000) :
    Calls Try.prog 21 #[.slice A n c, .slice A2 n2 c2, .int .u32 (p : Int)] w (OwnI (jn out l p) base w) := by
  have hr : Rd w w.heap.size 1 A n (I out) := Rd.of_own h
  have hlo : Hid (out.length = n) := Lib.hid (ilen hr)
  obtain ⟨x, hx⟩ : ∃ x, cfirst l p = x := ⟨_, rfl⟩
  obtain ⟨b, hbo⟩ : ∃ b, csome l = b := ⟨_, rfl⟩
  obtain ⟨z, hz⟩ : ∃ z, (p : Int) = z := ⟨_, rfl⟩
  rw [hz]
  have Z := Lib.hid hz
  have X := Lib.hid hx
  have BO := Lib.hid hbo
  clear hz hx hbo
  go_enter Try.func21, Try.ntmps21
  go_wp2_with fail
  refine (cone0_at Z.out X.out BO.out A2 n2 c2 hp w h2 hn2).mono ?_
  rintro e v1 ⟨rfl, b1⟩
  replace hr := hr.belowH b1
  have h1 : v1.ownsRow base 3 1 (.slice A n c) n (I out) := own_belowC h b1
  have hb1 : Below base w v1 := b1.mono hb
  have hbs := hb1.size
  rcases b with _ | _
  · have e : Hid (jn out l p = out) := Lib.hid (by
      have : l = [] := by
        have := of_decide_eq_false BO.out
        exact Classical.not_not.1 this
      unfold jn; rw [if_pos this])
    go_wp2
    go_ret
    exact ⟨A, n, c, rfl, by rw [e.out]; exact hlo.out, by rw [e.out]; exact h1, hb1⟩
  · have hne : l ≠ [] := of_decide_eq_true BO.out
    have ex : Hid (Ch.one l p = x) := Lib.hid (by rw [← X.out, cfirst_one hne])
    have HNE := Lib.hid hne
    clear hne
    by_cases hm : x ∈ out
    · have e : Hid (jn out l p = out) := Lib.hid (by unfold jn; rw [if_neg HNE.out, ex.out]; unfold Ch.add; rw [if_pos hm])
      have HM := Lib.hid (decide_eq_true hm)
      clear hm
      go_wp2_with fail
      refine (chas0_at HM.out A n c v1 hr (by omega)).mono ?_
      rintro _ v2 ⟨rfl, rfl⟩
      go_wp2
      go_ret
      exact ⟨A, n, c, rfl, by rw [e.out]; exact hlo.out, by rw [e.out]; exact h1, hb1⟩
    · have e : Hid (jn out l p = out ++ [x]) := Lib.hid (by unfold jn; rw [if_neg HNE.out, ex.out]; unfold Ch.add; rw [if_neg hm])
      have HM := Lib.hid (decide_eq_false hm)
      clear hm
      go_wp2_with fail
      refine (chas0_at HM.out A n c v1 hr (by omega)).mono ?_
      rintro _ v2 ⟨rfl, rfl⟩
      go_wp2_with (at_builtin; refine app_law i64C rfl (.tmp 23) (.tmp 25) rfl base rfl (h1.alloc _) rfl (Rd.one _ _ _) (one_int _ _) (by omega) (by omega) (by simp; omega) ?_; rintro A3 c3 w2 ⟨hown2, hg2, _, holdw2⟩)
      go_ret
      have b2 := below_app (hb1.alloc (by omega) (.cells #[.int .i64 x] 3)) (h1.alloc _) hg2 (Nat.le_refl _) (by simp; omega)
      exact ⟨A3, n + 1, c3, rfl, by rw [e.out]; simp [hlo.out], by rw [e.out, I_appC]; exact hown2, b2⟩
end Go.Proofs.Ytlafmonfhkgcfaa
