/- frame.Right, frame.Same, bellwetherlaw03.great, bytes.Equal, bytes.HasPrefix, bytes.CutPrefix and their references. -/
import Derived.Test.YtbnbljkkfgieoaaBase
import Derived.Test.YtbnbljkkfgieoaaFMath
import Derived.Laws.IdiomStrings
import Derived.Laws.NewBlocks
import Derived.Handy
namespace Go.Proofs.Ytbnbljkkfgieoaa
set_option linter.unusedVariables false
set_option linter.unusedSimpArgs false
open Go.RowKit

/-- a frame's value -/
def fv (f : Fr) (A : Option Addr) (n c : Nat) : Value := .agg #[.int .i64 f.kind, .string (strB f.clu), .int .i64 f.frm, .slice A n c]
def rightB (f : Fr) : Bool := decide (F.may f)
theorem fin_no {f : Fr} (h : ¬ F.may f) : false = rightB f := (decide_eq_false h).symm
theorem fin_eq {f : Fr} {p : Prop} [Decidable p] (h : p ↔ F.may f) : decide p = rightB f := decide_eq_decide.2 h
set_option maxHeartbeats 1000000 in
theorem right_any (f : Fr) (A : Option Addr) (n c : Nat) (w : World) (hn : n = f.pay.length) :
    Calls Try.prog 12 #[fv f A n c] w fun e w' => e = .returned (.bool (rightB f)) ∧ Below w.heap.size w w' := by
  obtain ⟨k, cl, fr, pl⟩ := f
  simp only [fv]
  have hcl : (strB cl).size = cl.length := strB_size cl
  have HN := Lib.hid hn
  clear hn
  by_cases h1 : 1 ≤ k
  · by_cases h2 : k ≤ 7
    · by_cases h3 : 1 ≤ cl.length
      · by_cases h4 : cl.length ≤ 30
        · by_cases h5 : 0 ≤ fr
          · by_cases h6 : fr < 8
            all_goals
              go_enter Try.func12, Try.ntmps12
              go_wp2
              go_ret
              have hn : n = pl.length := HN.out
              exact ⟨ret_bool (by first | exact fin_no (by unfold F.may; dsimp only; omega) | exact fin_eq (by unfold F.may; dsimp only; omega)), (Below.refl _ _).alloc (Nat.le_refl _) _⟩
          · go_enter Try.func12, Try.ntmps12
            go_wp2
            go_ret
            exact ⟨ret_bool (fin_no (by unfold F.may; dsimp only; omega)), (Below.refl _ _).alloc (Nat.le_refl _) _⟩
        · go_enter Try.func12, Try.ntmps12
          go_wp2
          go_ret
          exact ⟨ret_bool (fin_no (by unfold F.may; dsimp only; omega)), (Below.refl _ _).alloc (Nat.le_refl _) _⟩
      · go_enter Try.func12, Try.ntmps12
        go_wp2
        go_ret
        exact ⟨ret_bool (fin_no (by unfold F.may; dsimp only; omega)), (Below.refl _ _).alloc (Nat.le_refl _) _⟩
    · go_enter Try.func12, Try.ntmps12
      go_wp2
      go_ret
      exact ⟨ret_bool (fin_no (by unfold F.may; dsimp only; omega)), (Below.refl _ _).alloc (Nat.le_refl _) _⟩
  · go_enter Try.func12, Try.ntmps12
    go_wp2
    go_ret
    exact ⟨ret_bool (fin_no (by unfold F.may; dsimp only; omega)), (Below.refl _ _).alloc (Nat.le_refl _) _⟩

set_option maxHeartbeats 1000000 in
theorem rright_any (f : Fr) (A : Option Addr) (n c : Nat) (w : World) (hn : n = f.pay.length) :
    Calls Try.prog 13 #[fv f A n c] w fun e w' => e = .returned (.bool (rightB f)) ∧ Below w.heap.size w w' := by
  obtain ⟨k, cl, fr, pl⟩ := f
  simp only [fv]
  have hcl : (strB cl).size = cl.length := strB_size cl
  have HN := Lib.hid hn
  clear hn
  by_cases h1 : 1 ≤ k
  · by_cases h2 : k ≤ 7
    · by_cases h3 : 1 ≤ cl.length
      · by_cases h4 : cl.length ≤ 30
        · by_cases h5 : 0 ≤ fr
          · by_cases h6 : fr < 8
            all_goals
              go_enter Try.func13, Try.ntmps13
              go_wp2
              go_ret
              have hn : n = pl.length := HN.out
              exact ⟨ret_bool (by first | exact fin_no (by unfold F.may; dsimp only; omega) | exact fin_eq (by unfold F.may; dsimp only; omega)), (Below.refl _ _).alloc (Nat.le_refl _) _⟩
          · go_enter Try.func13, Try.ntmps13
            go_wp2
            go_ret
            exact ⟨ret_bool (fin_no (by unfold F.may; dsimp only; omega)), (Below.refl _ _).alloc (Nat.le_refl _) _⟩
        · go_enter Try.func13, Try.ntmps13
          go_wp2
          go_ret
          exact ⟨ret_bool (fin_no (by unfold F.may; dsimp only; omega)), (Below.refl _ _).alloc (Nat.le_refl _) _⟩
      · go_enter Try.func13, Try.ntmps13
        go_wp2
        go_ret
        exact ⟨ret_bool (fin_no (by unfold F.may; dsimp only; omega)), (Below.refl _ _).alloc (Nat.le_refl _) _⟩
    · go_enter Try.func13, Try.ntmps13
      go_wp2
      go_ret
      exact ⟨ret_bool (fin_no (by unfold F.may; dsimp only; omega)), (Below.refl _ _).alloc (Nat.le_refl _) _⟩
  · go_enter Try.func13, Try.ntmps13
    go_wp2
    go_ret
    exact ⟨ret_bool (fin_no (by unfold F.may; dsimp only; omega)), (Below.refl _ _).alloc (Nat.le_refl _) _⟩

def greatB (f : Fr) : Bool := decide (300 < f.clu.length ∨ 3000 < f.pay.length)
theorem great_any (f : Fr) (A : Option Addr) (n c : Nat) (w : World) (hn : n = f.pay.length) :
    Calls Try.prog 8 #[fv f A n c] w fun e w' => e = .returned (.bool (greatB f)) ∧ Below w.heap.size w w' := by
  obtain ⟨k, cl, fr, pl⟩ := f
  simp only [fv]
  have hcl : (strB cl).size = cl.length := strB_size cl
  have HN := Lib.hid hn
  clear hn
  by_cases h1 : 300 < cl.length
  all_goals
    go_enter Try.func8, Try.ntmps8
    go_wp2
    go_ret
    have hn : n = pl.length := HN.out
    exact ⟨ret_bool (by first | exact (decide_eq_true (by show 300 < cl.length ∨ 3000 < pl.length; omega)).symm | (show (decide (300 < (cl.length : Int)) || decide (3000 < (n : Int))) = decide (300 < cl.length ∨ 3000 < pl.length); rw [hn, Bool.decide_or]; congr 1 <;> exact decide_eq_decide.2 (by omega))), (Below.refl _ _).alloc (Nat.le_refl _) _⟩

/-! ### Bytes the same, bytes' beginnings -/
theorem beq_strB (l l' : List UInt8) : ((⟨l.toArray⟩ : ByteArray) == ⟨l'.toArray⟩) = decide (l = l') := by
  by_cases e : l = l'
  · subst e; simp only [decide_true]; show (l.toArray == l.toArray) = true; simp
  · rw [decide_eq_false e]; show (l.toArray == l'.toArray) = false; simp [e]
theorem equal_any (A A' : Option Addr) (n n' c c' B B' : Nat) (l l' : List UInt8) (w : World) (h : Rd w B 1 A n (U l)) (h' : Rd w B' 1 A' n' (U l')) :
    Calls Try.prog 24 #[.slice A n c, .slice A' n' c'] w fun e w' => e = .returned (.bool (decide (l = l'))) ∧ w = w' := by
  have e1 := run_str (P := Try.prog) (c := c) 22 9 5 Try.underlying22 Try.underlying5 Try.underlying9 h
  have e2 := run_str (P := Try.prog) (c := c') 22 9 5 Try.underlying22 Try.underlying5 Try.underlying9 h'
  clear h h'
  go_enter Try.func24, Try.ntmps24
  go_wp2
  go_ret
  exact ⟨ret_bool (by by_cases e : l = l' <;> simp [e]), rfl⟩
def prefB (l p : List UInt8) : Bool := decide (l.take p.length = p)
theorem prefix_any (A A' : Option Addr) (n n' c c' B B' : Nat) (l p : List UInt8) (w : World) (h : Rd w B 1 A n (U l)) (h' : Rd w B' 1 A' n' (U p)) (hc : n ≤ c) :
    Calls Try.prog 39 #[.slice A n c, .slice A' n' c'] w fun e w' => e = .returned (.bool (prefB l p)) ∧ w = w' := by
  have hl : l.length = n := by have := h.len1; rwa [U_length] at this
  have hp : p.length = n' := by have := h'.len1; rwa [U_length] at this
  have HL := Lib.hid hl
  have HP := Lib.hid hp
  clear hl hp
  by_cases hn : n' ≤ n
  · have hcut := run_cut_h u8T w A n c n' n' rfl (by omega)
    have h1 := h.take1 hn
    rw [U_take] at h1
    go_enter Try.func39, Try.ntmps39
    go_wp2_with (go_at_call 24; refine (equal_any A A' n' n' c c' B B' (l.take n') p _ h1 h').mono ?_; rintro e w' ⟨rfl, rfl⟩)
    go_ret
    exact ⟨ret_bool (by rw [prefB, HP.out]), rfl⟩
  · go_enter Try.func39, Try.ntmps39
    go_wp2
    go_ret
    refine ⟨ret_bool ?_, rfl⟩
    refine (decide_eq_false ?_).symm
    intro e
    have := congrArg List.length e
    rw [List.length_take, HL.out, HP.out] at this
    omega
theorem cutpref_any (A A' : Option Addr) (n n' c c' B B' : Nat) (l p : List UInt8) (w : World) (h : Rd w B 1 A n (U l)) (h' : Rd w B' 1 A' n' (U p)) (hc : n ≤ c) :
    Calls Try.prog 26 #[.slice A n c, .slice A' n' c'] w fun e w' => (l.take p.length = p ∧ n' ≤ n ∧ e = .returned (.tuple #[.slice (cutA A c n' 1) (n - n') (c - n'), .bool true]) ∨
      l.take p.length ≠ p ∧ e = .returned (.tuple #[.slice A n c, .bool false])) ∧ w = w' := by
  have hl : l.length = n := by have := h.len1; rwa [U_length] at this
  have hp : p.length = n' := by have := h'.len1; rwa [U_length] at this
  by_cases hx : l.take p.length = p
  · have hb : prefB l p = true := decide_eq_true hx
    have hn : n' ≤ n := by
      have := congrArg List.length hx
      rw [List.length_take] at this
      omega
    have hcut := run_cut_l u8T w A n c n' n' rfl hn
    have HX := Lib.hid hx
    clear hx hl hp
    go_enter Try.func26, Try.ntmps26
    go_wp2_with (go_at_call 39; refine (prefix_any A A' n n' c c' B B' l p _ h h' hc).mono ?_; rintro e w' ⟨rfl, rfl⟩)
    go_ret2
    exact ⟨Or.inl ⟨HX.out, hn, rfl⟩, rfl⟩
  · have hb : prefB l p = false := decide_eq_false hx
    have HX := Lib.hid hx
    clear hx hl hp
    go_enter Try.func26, Try.ntmps26
    go_wp2_with (go_at_call 39; refine (prefix_any A A' n n' c c' B B' l p _ h h' hc).mono ?_; rintro e w' ⟨rfl, rfl⟩)
    go_ret2
    exact ⟨Or.inr ⟨HX.out, rfl⟩, rfl⟩

/-! ### Frames the same -/
def sameB (f g : Fr) : Bool := decide (f = g)
set_option maxHeartbeats 1000000 in
theorem fsame_any (f g : Fr) (A A' : Option Addr) (n n' c c' B B' : Nat) (w : World) (h : Rd w B 1 A n (U f.pay)) (h' : Rd w B' 1 A' n' (U g.pay)) (hB : B ≤ w.heap.size) (hB' : B' ≤ w.heap.size) :
    Calls Try.prog 14 #[fv f A n c, fv g A' n' c'] w fun e w' => e = .returned (.bool (sameB f g)) ∧ Below w.heap.size w w' := by
  obtain ⟨k, cl, fr, pl⟩ := f
  obtain ⟨k', cl', fr', pl'⟩ := g
  simp only [fv]
  simp only at h h'
  have hb : Below w.heap.size w ((w.alloc (.cells #[.int .i64 k, .string (strB cl), .int .i64 fr, .slice A n c] 24)).alloc (.cells #[.int .i64 k', .string (strB cl'), .int .i64 fr', .slice A' n' c'] 24)) := ((Below.refl _ _).alloc (Nat.le_refl _) _).alloc (by simp) _
  have h1 := (h.more hB).below hb
  have h2 := (h'.more hB').below hb
  by_cases e1 : k = k'
  · subst e1
    by_cases e2 : cl = cl'
    · subst e2
      by_cases e3 : fr = fr'
      · subst e3
        go_enter Try.func14, Try.ntmps14
        go_wp2_with (go_at_call 24; refine (equal_any A A' n n' c c' _ _ pl pl' _ h1 h2).mono ?_; rintro e w' ⟨rfl, rfl⟩)
        go_ret
        exact ⟨ret_bool (decide_eq_decide.2 ⟨fun e => by rw [e], fun e => by injection e⟩), hb⟩
      · have e3' : (fr == fr') = false := beq_eq_false_iff_ne.2 e3
        have E3 := Lib.hid e3
        clear e3
        go_enter Try.func14, Try.ntmps14
        go_wp2
        go_ret
        exact ⟨ret_bool (decide_eq_false (fun e => E3.out (by injection e))).symm, hb⟩
    · have e2' : (strB cl == strB cl') = false := by rw [show (strB cl == strB cl') = decide (cl = cl') from beq_strB cl cl']; exact decide_eq_false e2
      have E2 := Lib.hid e2
      clear e2
      go_enter Try.func14, Try.ntmps14
      go_wp2
      go_ret
      exact ⟨ret_bool (decide_eq_false (fun e => E2.out (by injection e))).symm, hb⟩
  · have e1' : (k == k') = false := beq_eq_false_iff_ne.2 e1
    have E1 := Lib.hid e1
    clear e1
    go_enter Try.func14, Try.ntmps14
    go_wp2
    go_ret
    exact ⟨ret_bool (decide_eq_false (fun e => E1.out (by injection e))).symm, hb⟩

set_option maxHeartbeats 1000000 in
theorem rfsame_any (f g : Fr) (A A' : Option Addr) (n n' c c' B B' : Nat) (w : World) (h : Rd w B 1 A n (U f.pay)) (h' : Rd w B' 1 A' n' (U g.pay)) (hB : B ≤ w.heap.size) (hB' : B' ≤ w.heap.size) :
    Calls Try.prog 15 #[fv f A n c, fv g A' n' c'] w fun e w' => e = .returned (.bool (sameB f g)) ∧ Below w.heap.size w w' := by
  obtain ⟨k, cl, fr, pl⟩ := f
  obtain ⟨k', cl', fr', pl'⟩ := g
  simp only [fv]
  simp only at h h'
  have hb : Below w.heap.size w ((w.alloc (.cells #[.int .i64 k, .string (strB cl), .int .i64 fr, .slice A n c] 24)).alloc (.cells #[.int .i64 k', .string (strB cl'), .int .i64 fr', .slice A' n' c'] 24)) := ((Below.refl _ _).alloc (Nat.le_refl _) _).alloc (by simp) _
  have h1 := (h.more hB).below hb
  have h2 := (h'.more hB').below hb
  by_cases e1 : k = k'
  · subst e1
    by_cases e2 : cl = cl'
    · subst e2
      by_cases e3 : fr = fr'
      · subst e3
        go_enter Try.func15, Try.ntmps15
        go_wp2_with (go_at_call 11; refine (same_any A A' n n' c c' _ _ pl pl' _ h1 h2).mono ?_; rintro e w' ⟨rfl, rfl⟩)
        go_ret
        exact ⟨ret_bool (decide_eq_decide.2 ⟨fun e => by rw [e], fun e => by injection e⟩), hb⟩
      · have e3' : (fr == fr') = false := beq_eq_false_iff_ne.2 e3
        have E3 := Lib.hid e3
        clear e3
        go_enter Try.func15, Try.ntmps15
        go_wp2
        go_ret
        exact ⟨ret_bool (decide_eq_false (fun e => E3.out (by injection e))).symm, hb⟩
    · have e2' : (strB cl == strB cl') = false := by rw [show (strB cl == strB cl') = decide (cl = cl') from beq_strB cl cl']; exact decide_eq_false e2
      have E2 := Lib.hid e2
      clear e2
      go_enter Try.func15, Try.ntmps15
      go_wp2
      go_ret
      exact ⟨ret_bool (decide_eq_false (fun e => E2.out (by injection e))).symm, hb⟩
  · have e1' : (k == k') = false := beq_eq_false_iff_ne.2 e1
    have E1 := Lib.hid e1
    clear e1
    go_enter Try.func15, Try.ntmps15
    go_wp2
    go_ret
    exact ⟨ret_bool (decide_eq_false (fun e => E1.out (by injection e))).symm, hb⟩

end Go.Proofs.Ytbnbljkkfgieoaa
