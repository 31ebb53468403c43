/- The contracts of choice with the answer at hand; the fixed fact; is it more than is looked at. -/
import Derived.Test.YtlafmonfhkgcfaaCCode
namespace Go.Proofs.Ytlafmonfhkgcfaa
set_option linter.unusedVariables false
set_option linter.unusedSimpArgs false
open Go.RowKit
theorem cone_at {l : List Int} {p : Nat} {z x : Int} {b : Bool} (hz : (p : Int) = z) (e : cfirst l p = x) (e' : csome l = b) (A : Option Addr) (n c : Nat) (hp : p ≤ 4294967295) (w : World) (h : Rd w w.heap.size 1 A n (I l)) (hn : n ≤ 1000) :
    Calls Try.prog 9 #[.slice A n c, .int .u32 z] w (IntBC x b w) := by subst hz e e'; exact cone_any l A n c p hp w h hn
theorem chas_at {l : List Int} {x : Int} {b : Bool} (e : decide (x ∈ l) = b) (A : Option Addr) (n c : Nat) (w : World) (h : Rd w w.heap.size 1 A n (I l)) (hn : n ≤ 1000) :
    Calls Try.prog 16 #[.slice A n c, .int .i64 x] w fun e w' => e = .returned (.bool b) ∧ ∃ q, w' = w.drewN q := by subst e; exact chas_any l x A n c w h hn
theorem cwithout_at {l l' : List Int} {x : Int} (e : Ch.without l x = l') (A : Option Addr) (n c : Nat) (w : World) (h : Rd w w.heap.size 1 A n (I l)) (hn : n ≤ 1000) :
    Calls Try.prog 14 #[.slice A n c, .int .i64 x] w (ReadI l' w) := by subst e; exact cwithout_any l x A n c w h hn
theorem rcwithout_at {l l' : List Int} {x : Int} (e : Ch.without l x = l') (A : Option Addr) (n c : Nat) (w : World) (h : Rd w w.heap.size 1 A n (I l)) (hn : n ≤ 1000) :
    Calls Try.prog 15 #[.slice A n c, .int .i64 x] w (ReadI l' w) := by subst e; exact rcwithout_any l x A n c w h (by omega)
theorem crising_at {l l' : List Int} (e : Ch.rising l = l') (A : Option Addr) (n c : Nat) (w : World) (h : Rd w w.heap.size 1 A n (I l)) (hn : n ≤ 1000) :
    Calls Try.prog 18 #[.slice A n c] w (ReadI l' w) := by subst e; exact crising_any l A n c w h hn
theorem rcrising_at {l l' : List Int} (e : Ch.rising l = l') (A : Option Addr) (n c : Nat) (w : World) (h : Rd w w.heap.size 1 A n (I l)) (hn : n ≤ 1000) :
    Calls Try.prog 19 #[.slice A n c] w (ReadI l' w) := by subst e; exact rcrising_any l A n c w h hn
theorem cround_at {al dn sd l' : List Int} {p q r : Nat} {zp zq zr : Int} (hz : (p : Int) = zp ∧ (q : Int) = zq ∧ (r : Int) = zr) (e : Ch.round al dn sd p q r = l') (A1 A2 A3 : Option Addr) (n1 c1 n2 c2 n3 c3 : Nat) (hp : p ≤ 4294967295 ∧ q ≤ 4294967295 ∧ r ≤ 4294967295) (w : World) (h1 : Rd w w.heap.size 1 A1 n1 (I al)) (h2 : Rd w w.heap.size 1 A2 n2 (I dn)) (h3 : Rd w w.heap.size 1 A3 n3 (I sd)) (hn1 : n1 ≤ 1000) (hn2 : n2 ≤ 1000) (hn3 : n3 ≤ 1000) :
    Calls Try.prog 12 #[.slice A1 n1 c1, .slice A2 n2 c2, .slice A3 n3 c3, .agg #[.int .u32 zp, .int .u32 zq, .int .u32 zr]] w (ReadI l' w) := by obtain ⟨rfl, rfl, rfl⟩ := hz; subst e; exact cround_any al dn sd p q r A1 A2 A3 n1 c1 n2 c2 n3 c3 hp.1 hp.2.1 hp.2.2 w h1 h2 h3 hn1 hn2 hn3
theorem rcround_at {al dn sd l' : List Int} {p q r : Nat} {zp zq zr : Int} (hz : (p : Int) = zp ∧ (q : Int) = zq ∧ (r : Int) = zr) (e : Ch.round al dn sd p q r = l') (A1 A2 A3 : Option Addr) (n1 c1 n2 c2 n3 c3 : Nat) (hp : p ≤ 4294967295 ∧ q ≤ 4294967295 ∧ r ≤ 4294967295) (w : World) (h1 : Rd w w.heap.size 1 A1 n1 (I al)) (h2 : Rd w w.heap.size 1 A2 n2 (I dn)) (h3 : Rd w w.heap.size 1 A3 n3 (I sd)) (hn1 : n1 ≤ 1000) (hn2 : n2 ≤ 1000) (hn3 : n3 ≤ 1000) :
    Calls Try.prog 13 #[.slice A1 n1 c1, .slice A2 n2 c2, .slice A3 n3 c3, .agg #[.int .u32 zp, .int .u32 zq, .int .u32 zr]] w (ReadI l' w) := by obtain ⟨rfl, rfl, rfl⟩ := hz; subst e; exact rcround_any al dn sd p q r A1 A2 A3 n1 c1 n2 c2 n3 c3 hp.1 hp.2.1 hp.2.2 w h1 h2 h3 hn1 hn2 hn3
theorem cints_at {l : List Int} (A A' : Option Addr) (n n' c c' : Nat) (w : World) (h : Rd w w.heap.size 1 A n (I l)) (h' : Rd w w.heap.size 1 A' n' (I l)) (hn : n ≤ 1000) :
    Calls Try.prog 11 #[.slice A n c, .slice A' n' c'] w fun e w' => e = .returned (.bool true) ∧ ∃ q, w' = w.drewN q :=
  (cints_any l l A A' n n' c c' _ _ w h h' hn).mono fun _ _ ⟨h1, h2⟩ => ⟨by rw [h1, decide_eq_true rfl], h2⟩
theorem drewN_below {B : Nat} (w : World) (q : Nat) : Below B w (w.drewN q) := kdrewC (Below.refl _ _) q
theorem cints_b {l : List Int} (A A' : Option Addr) (n n' c c' : Nat) (w : World) (h : Rd w w.heap.size 1 A n (I l)) (h' : Rd w w.heap.size 1 A' n' (I l)) (hn : n ≤ 1000) :
    Calls Try.prog 11 #[.slice A n c, .slice A' n' c'] w (BoolC true w) :=
  (cints_at A A' n n' c c' w h h' hn).mono fun _ _ ⟨h1, q, h2⟩ => ⟨h1, by subst h2; exact drewN_below _ _⟩
theorem chas_b {l : List Int} {x : Int} {b : Bool} (e : decide (x ∈ l) = b) (A : Option Addr) (n c : Nat) (w : World) (h : Rd w w.heap.size 1 A n (I l)) (hn : n ≤ 1000) :
    Calls Try.prog 16 #[.slice A n c, .int .i64 x] w (BoolC b w) := (chas_at e A n c w h hn).mono fun _ _ ⟨h1, q, h2⟩ => ⟨h1, by subst h2; exact drewN_below _ _⟩
theorem rchas_b {l : List Int} {x : Int} {b : Bool} (e : decide (x ∈ l) = b) (A : Option Addr) (n c : Nat) (w : World) (h : Rd w w.heap.size 1 A n (I l)) (hn : n ≤ 1000) :
    Calls Try.prog 17 #[.slice A n c, .int .i64 x] w (BoolC b w) := (rchas_at e A n c w h (by omega)).mono fun _ _ ⟨h1, h2⟩ => ⟨h1, by subst h2; exact Below.refl _ _⟩
theorem lit_row (w : World) (cs : Array Value) (n : Nat) (T : TypeId) (h : cs.size = n) : Rd (w.alloc (.cells cs T)) (w.alloc (.cells cs T)).heap.size 1 (some ⟨w.heap.size, 0, none⟩) n cs.toList := (Rd.lit w cs T 1 n (by omega)).more (by simp)
theorem al1 : cfirst [4, 7] 3 = 7 := by decide
theorem al2 : csome [4, 7] = true := by decide
theorem al3 : Ch.round [1, 2] [5] [2, 3] 0 3 1 = [1, 5, 3] := by decide
theorem al4 : Ch.rising [3, 1, 3] = [1, 3] := by decide
theorem al5 : Ch.without [1, 2, 1] 1 = [2] := by decide
theorem al6 : decide ((4 : Int) ∈ [(4 : Int)]) = true := by decide
set_option maxHeartbeats 4000000 in
set_option maxRecDepth 20000 in
theorem calive_any (w : World) : Calls Try.prog 7 #[] w (BoolC true w) := by
  have AL1 := Lib.hid al1
  have AL2 := Lib.hid al2
  have AL3 := Lib.hid al3
  have AL4 := Lib.hid al4
  have AL5 := Lib.hid al5
  have AL6 := Lib.hid al6
  go_enter Try.func7, Try.ntmps7
  go_wp2_with fail
  have R0 := lit_row w #[.int .i64 4, .int .i64 7] 2 3 rfl
  have b := (Below.refl w.heap.size w).alloc (Nat.le_refl _) (.cells #[.int .i64 4, .int .i64 7] 3)
  refine (cone_at (p := 3) rfl AL1.out AL2.out _ 2 2 (by omega) _ R0 (by omega)).mono ?_
  rintro _ w1 ⟨rfl, hb⟩
  replace b := b.trans (hb.mono b.size)
  clear R0 hb
  go_wp2_with fail
  have R1 := ((lit_row w1 #[.int .i64 1, .int .i64 2] 2 3 rfl).belowH ((Below.refl _ _).alloc (Nat.le_refl _) (.cells #[.int .i64 5] 3))).belowH ((Below.refl _ _).alloc (Nat.le_refl _) (.cells #[.int .i64 2, .int .i64 3] 3))
  have R2 := (lit_row (w1.alloc (.cells #[.int .i64 1, .int .i64 2] 3)) #[.int .i64 5] 1 3 rfl).belowH ((Below.refl _ _).alloc (Nat.le_refl _) (.cells #[.int .i64 2, .int .i64 3] 3))
  have R3 := lit_row ((w1.alloc (.cells #[.int .i64 1, .int .i64 2] 3)).alloc (.cells #[.int .i64 5] 3)) #[.int .i64 2, .int .i64 3] 2 3 rfl
  have hs1 := b.size
  replace b := ((b.alloc (by omega) (.cells #[.int .i64 1, .int .i64 2] 3)).alloc (by simp; omega) (.cells #[.int .i64 5] 3)).alloc (by simp; omega) (.cells #[.int .i64 2, .int .i64 3] 3)
  rw [show (w1.alloc (.cells #[.int .i64 1, .int .i64 2] 3)).heap.size = w1.heap.size + 1 by simp] at R2
  rw [show ((w1.alloc (.cells #[.int .i64 1, .int .i64 2] 3)).alloc (.cells #[.int .i64 5] 3)).heap.size = w1.heap.size + 1 + 1 by simp] at R3
  refine (cround_at (p := 0) (q := 3) (r := 1) ⟨rfl, rfl, rfl⟩ AL3.out _ _ _ 2 2 1 1 2 2 (by omega) _ R1 R2 R3 (by omega) (by omega) (by omega)).mono ?_
  rintro _ w2 ⟨⟨A4, n4, c4, rfl, R4, _⟩, hb⟩
  replace b := b.trans (hb.mono b.size)
  clear R1 R2 R3 hb hs1
  go_wp2_with fail
  have hs1 := b.size
  replace R4 := R4.belowH ((Below.refl _ _).alloc (Nat.le_refl _) (.cells #[.int .i64 1, .int .i64 5, .int .i64 3] 3))
  have R5 := lit_row w2 #[.int .i64 1, .int .i64 5, .int .i64 3] 3 3 rfl
  replace b := b.alloc (by omega) (.cells #[.int .i64 1, .int .i64 5, .int .i64 3] 3)
  refine (cints_b (l := [1, 5, 3]) A4 _ n4 3 c4 3 _ R4 R5 (by have h9 := ilen R4; simp at h9; omega)).mono ?_
  rintro _ w3 ⟨rfl, hb⟩
  replace b := b.trans (hb.mono b.size)
  clear R4 R5 hb
  go_wp2_with fail
  have hs3 := b.size
  have R6 := lit_row w3 #[.int .i64 3, .int .i64 1, .int .i64 3] 3 3 rfl
  replace b := b.alloc (by omega) (.cells #[.int .i64 3, .int .i64 1, .int .i64 3] 3)
  refine (crising_at (l := [3, 1, 3]) AL4.out _ 3 3 _ R6 (by omega)).mono ?_
  rintro _ w4 ⟨⟨A7, n7, c7, rfl, R7, _⟩, hb⟩
  replace b := b.trans (hb.mono b.size)
  clear R6 hb hs1 hs3
  go_wp2_with fail
  have hs1 := b.size
  replace R7 := R7.belowH ((Below.refl _ _).alloc (Nat.le_refl _) (.cells #[.int .i64 1, .int .i64 3] 3))
  have R8 := lit_row w4 #[.int .i64 1, .int .i64 3] 2 3 rfl
  replace b := b.alloc (by omega) (.cells #[.int .i64 1, .int .i64 3] 3)
  refine (cints_b (l := [1, 3]) A7 _ n7 2 c7 2 _ R7 R8 (by have h9 := ilen R7; simp at h9; omega)).mono ?_
  rintro _ w5 ⟨rfl, hb⟩
  replace b := b.trans (hb.mono b.size)
  clear R7 R8 hb
  go_wp2_with fail
  have hs5 := b.size
  have R9 := lit_row w5 #[.int .i64 1, .int .i64 2, .int .i64 1] 3 3 rfl
  replace b := b.alloc (by omega) (.cells #[.int .i64 1, .int .i64 2, .int .i64 1] 3)
  refine (cwithout_at (l := [1, 2, 1]) AL5.out _ 3 3 _ R9 (by omega)).mono ?_
  rintro _ w6 ⟨⟨A10, n10, c10, rfl, R10, _⟩, hb⟩
  obtain rfl : n10 = 1 := by have h9 := ilen R10; simp at h9; omega
  replace b := b.trans (hb.mono b.size)
  clear R9 hb hs1 hs5 R10
  go_wp2_with fail
  have hs6 := b.size
  have R11 := lit_row w6 #[.int .i64 4] 1 3 rfl
  replace b := b.alloc (by omega) (.cells #[.int .i64 4] 3)
  refine (chas_b (l := [4]) AL6.out _ 1 1 _ R11 (by omega)).mono ?_
  rintro _ w7 ⟨rfl, hb⟩
  replace b := b.trans (hb.mono b.size)
  clear R11 hb
  go_wp2
  go_ret
  exact ⟨rfl, b⟩
end Go.Proofs.Ytlafmonfhkgcfaa
