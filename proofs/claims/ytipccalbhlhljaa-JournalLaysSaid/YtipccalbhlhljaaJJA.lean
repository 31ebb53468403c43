/- JEq JKal JAlive (merged). -/
import Derived.Laws.StructEq
import Derived.KernelRfl
import Derived.Test.YtipccalbhlhljaaJPlain
import Derived.Test.YtipccalbhlhljaaJKRef2
import Derived.Test.YtipccalbhlhljaaJKRefB
import Derived.Test.YtipccalbhlhljaaJJCode
namespace Go.Proofs.Ytipccalbhlhljaa
set_option linter.unusedVariables false
set_option linter.unusedSimpArgs false
open Go.RowKit
def rcB (x y : Rc) : Bool := decide (x = y)
theorem rcB_self (x : Rc) : rcB x x = true := decide_eq_true rfl
theorem eq_rc (x y : Rc) (w : World) : (Op.equalIn 10000 23 (.agg #[.int .i64 x.seq, .int .i64 x.gen, .string (strB x.note)]) (.agg #[.int .i64 y.seq, .int .i64 y.gen, .string (strB y.note)])).run Try.prog w = .ok (rcB x y) w := by
  have h0 := Try.underlying23
  simp [go_sem, run_equalIn_agg]
  obtain ⟨k, v, s⟩ := x
  obtain ⟨k', v', s'⟩ := y
  unfold rcB
  by_cases e1 : k = k'
  · by_cases e2 : v = v'
    · by_cases e3 : s = s'
      · simp [e1, e2, e3]
      · simp [e1, e2, e3]
    · simp [e1, e2]
  · simp [e1]
theorem guard_rc : Try.prog.eqGuardType Try.prog.depth 23 = false := by kernel_rfl
theorem guard_sec : Try.prog.eqGuardType Try.prog.depth 24 = false := by kernel_rfl
/-! ### Contracts with the answer at hand -/
theorem jlay_at {x : Rc} {t : List UInt8} {er : Int} (e : J.lay x = (t, er)) (hx : RcIn x) (w : World) : Calls Try.prog 9 #[.agg #[.int .i64 x.seq, .int .i64 x.gen, .string (strB x.note)]] w (SecR t er w) := by have h := jlay_any x w hx; rw [e] at h; exact h
theorem rjlay_at {x : Rc} {t : List UInt8} {er : Int} (e : J.lay x = (t, er)) (hx : RcIn x) (w : World) : Calls Try.prog 10 #[.agg #[.int .i64 x.seq, .int .i64 x.gen, .string (strB x.note)]] w (SecR t er w) := by have h := rjlay_any x w hx; rw [e] at h; exact h
theorem jfind_at {b : List UInt8} {x : Rc} {er : Int} (e : J.find b = (x, er)) (hb : b.length = 64) (w : World) : Calls Try.prog 11 #[.agg (U b).toArray] w (RecR x er w) := by have h := jfind_any b hb w; rw [e] at h; exact h
theorem rjfind_at {b : List UInt8} {x : Rc} {er : Int} (e : J.find b = (x, er)) (hb : b.length = 64) (w : World) : Calls Try.prog 12 #[.agg (U b).toArray] w (RecR x er w) := by have h := rjfind_any b hb w; rw [e] at h; exact h
theorem jlast_at {d : Dk} {x : Rc} {er : Int} (A : Option Addr) (n c : Nat) (e : J.last d = (x, er)) (w : World) (h : KRd w ⟨d, A, n, c⟩) (hn : n ≤ 1000) : Calls Try.prog 20 #[.agg #[.slice A n c, .int .i64 d.fuse, .bool d.down]] w (RecR x er w) := by have h := jlast_any d A n c w h hn; rw [e] at h; exact h
theorem rjlast_at {d : Dk} {x : Rc} {er : Int} (A : Option Addr) (n c : Nat) (e : J.last d = (x, er)) (w : World) (h : KRd w ⟨d, A, n, c⟩) (hn : n ≤ 1000) : Calls Try.prog 21 #[.agg #[.slice A n c, .int .i64 d.fuse, .bool d.down]] w (RecR x er w) := by have h := rjlast_any ⟨d, A, n, c⟩ w h hn; rw [e] at h; exact h
/-- a disk, a record, an error -/
def Trip (y : Dk) (x : Rc) (er : Int) (w : World) (e : Ending) (w' : World) : Prop := (∃ (A : Option Addr) (n c : Nat), e = .returned (.tuple #[.agg #[.slice A n c, .int .i64 y.fuse, .bool y.down], rv x, .int .i64 er]) ∧ KRd w' ⟨y, A, n, c⟩) ∧ Below w.heap.size w w'
theorem jwrite_at {d : Dk} {y : Dk} {x : Rc} {er : Int} (A : Option Addr) (n c : Nat) (gen : Int) (note : List UInt8) (e : J.write d gen note = (y, x, er)) (w : World) (h : KRd w ⟨d, A, n, c⟩) (hn : n ≤ 1000) (hf : d.fuse ≤ 9223372036854775807) (hg : -9223372036854775808 ≤ gen ∧ gen ≤ 9223372036854775807) (hnt : note.length ≤ 9223372036854775807) :
    Calls Try.prog 14 #[.agg #[.slice A n c, .int .i64 d.fuse, .bool d.down], .int .i64 gen, .string (strB note)] w (Trip y x er w) := by have h := jwrite_any d A n c gen note w h hn hf hg hnt; rw [e] at h; exact h
theorem jnext_at {d : Dk} {y : Dk} {x : Rc} {er : Int} (A : Option Addr) (n c : Nat) (note : List UInt8) (e : J.next d note = (y, x, er)) (w : World) (h : KRd w ⟨d, A, n, c⟩) (hn : n ≤ 1000) (hf : d.fuse ≤ 9223372036854775807) (hnt : note.length ≤ 9223372036854775807) :
    Calls Try.prog 16 #[.agg #[.slice A n c, .int .i64 d.fuse, .bool d.down], .string (strB note)] w (Trip y x er w) := by have h := jnext_any d A n c note w h hn hf hnt; rw [e] at h; exact h
theorem jformat_at {d : Dk} {y : Dk} {x : Rc} {er : Int} (A : Option Addr) (n c : Nat) (note : List UInt8) (e : J.format d note = (y, x, er)) (w : World) (h : KRd w ⟨d, A, n, c⟩) (hn : n ≤ 1000) (hf : d.fuse ≤ 9223372036854775807) (hnt : note.length ≤ 9223372036854775807) :
    Calls Try.prog 18 #[.agg #[.slice A n c, .int .i64 d.fuse, .bool d.down], .string (strB note)] w (Trip y x er w) := by have h := jformat_any d A n c note w h hn hf hnt; rw [e] at h; exact h
theorem rjwrite_at {d : Dk} {y : Dk} {x : Rc} {er : Int} (A : Option Addr) (n c : Nat) (gen : Int) (note : List UInt8) (e : J.write d gen note = (y, x, er)) (w : World) (h : KRd w ⟨d, A, n, c⟩) (hn : n ≤ 1000) (hf : d.fuse ≤ 9223372036854775807) (hg : -9223372036854775808 ≤ gen ∧ gen ≤ 9223372036854775807) (hnt : note.length ≤ 9223372036854775807) :
    Calls Try.prog 15 #[.agg #[.slice A n c, .int .i64 d.fuse, .bool d.down], .int .i64 gen, .string (strB note)] w (Trip y x er w) := by have h := rjwrite_any d A n c gen note w h hn hf hg hnt; rw [e] at h; exact h
theorem rjnext_at {d : Dk} {y : Dk} {x : Rc} {er : Int} (A : Option Addr) (n c : Nat) (note : List UInt8) (e : J.next d note = (y, x, er)) (w : World) (h : KRd w ⟨d, A, n, c⟩) (hn : n ≤ 1000) (hf : d.fuse ≤ 9223372036854775807) (hnt : note.length ≤ 9223372036854775807) :
    Calls Try.prog 17 #[.agg #[.slice A n c, .int .i64 d.fuse, .bool d.down], .string (strB note)] w (Trip y x er w) := by have h := rjnext_any d A n c note w h hn hf hnt; rw [e] at h; exact h
theorem rjformat_at {d : Dk} {y : Dk} {x : Rc} {er : Int} (A : Option Addr) (n c : Nat) (note : List UInt8) (e : J.format d note = (y, x, er)) (w : World) (h : KRd w ⟨d, A, n, c⟩) (hn : n ≤ 1000) (hf : d.fuse ≤ 9223372036854775807) (hnt : note.length ≤ 9223372036854775807) :
    Calls Try.prog 19 #[.agg #[.slice A n c, .int .i64 d.fuse, .bool d.down], .string (strB note)] w (Trip y x er w) := by have h := rjformat_any d A n c note w h hn hf hnt; rw [e] at h; exact h
theorem rksame_at' {x y : Dk} {z : Bool} (A : Option Addr) (n c : Nat) (A' : Option Addr) (n' c' : Nat) (e : decide (x = y) = z) (w : World) (h : KRd w ⟨x, A, n, c⟩) (h' : KRd w ⟨y, A', n', c'⟩) (hn : n ≤ 1000) :
    Calls Try.prog 22 #[.agg #[.slice A n c, .int .i64 x.fuse, .bool x.down], .agg #[.slice A' n' c', .int .i64 y.fuse, .bool y.down]] w (BoolK z w) := by subst e; exact rksame_any ⟨x, A, n, c⟩ ⟨y, A', n', c'⟩ w h h' hn
end Go.Proofs.Ytipccalbhlhljaa

namespace Go.Proofs.Ytipccalbhlhljaa
set_option linter.unusedVariables false
set_option linter.unusedSimpArgs false
namespace J
def r1 : Rc := ⟨1, 1, [97]⟩
def r2 : Rc := ⟨2, 2, [98]⟩
def k1 : Dk := ⟨[K.zero, K.zero, K.zero], -1, false⟩
def k2 : Dk := ⟨[K.zero, sec r1, K.zero], -1, false⟩
def k3 : Dk := ⟨[K.zero, sec r1, sec r2], -1, false⟩
theorem kal1 : K.new 3 = (k1, 0) := by kernel_rfl
theorem kal2 : format k1 [97] = (k2, r1, 0) := by kernel_rfl
theorem kal3 : next k2 [98] = (k3, r2, 0) := by kernel_rfl
theorem kal4 : last k3 = (r2, 0) := by kernel_rfl
end J
end Go.Proofs.Ytipccalbhlhljaa

namespace Go.Proofs.Ytipccalbhlhljaa
set_option linter.unusedVariables false
set_option linter.unusedSimpArgs false
open Go.RowKit
theorem rknew_at' {m : Int} {z : Dk × Int} (e : K.new m = z) (w : World) : Calls Try.prog 23 #[.int .i64 m] w (DiskR z.1 z.2 w) := by subst e; exact rknew_any m w
set_option maxHeartbeats 1000000 in
set_option maxRecDepth 20000 in
theorem jalive_any (w : World) : Calls Try.prog 8 #[] w fun e w' => e = .returned (.bool true) ∧ Below w.heap.size w w' := by
  have E1 := Lib.hid J.kal1
  have E2 : Hid (J.format J.k1 [97] = (J.k2, (⟨1, 1, [97]⟩ : Rc), 0)) := Lib.hid J.kal2
  have E3 : Hid (J.next J.k2 [98] = (J.k3, (⟨2, 2, [98]⟩ : Rc), 0)) := Lib.hid J.kal3
  have E4 : Hid (J.last J.k3 = ((⟨2, 2, [98]⟩ : Rc), 0)) := Lib.hid J.kal4
  have n1 : J.k1.secs.length ≤ 3 := by decide
  have n2 : J.k2.secs.length ≤ 3 := by decide
  have n3 : J.k3.secs.length ≤ 3 := by decide
  have f1 : J.k1.fuse ≤ 9223372036854775807 := by decide
  have f2 : J.k2.fuse ≤ 9223372036854775807 := by decide
  have q1 : ∀ w, (Op.equalIn 10000 23 (.agg #[.int .i64 1, .int .i64 1, .string (strB [97])]) (.agg #[.int .i64 1, .int .i64 1, .string ⟨#[97]⟩])).run Try.prog w = .ok true w := fun w => (eq_rc ⟨1, 1, [97]⟩ ⟨1, 1, [97]⟩ w).trans (by rw [rcB_self])
  have q2 : ∀ w, (Op.equalIn 10000 23 (.agg #[.int .i64 2, .int .i64 2, .string (strB [98])]) (.agg #[.int .i64 2, .int .i64 2, .string ⟨#[98]⟩])).run Try.prog w = .ok true w := fun w => (eq_rc ⟨2, 2, [98]⟩ ⟨2, 2, [98]⟩ w).trans (by rw [rcB_self])
  have q3 : ∀ w, (Op.equalIn 10000 23 (.agg #[.int .i64 2, .int .i64 2, .string (strB [98])]) (.agg #[.int .i64 2, .int .i64 2, .string (strB [98])])).run Try.prog w = .ok true w := fun w => (eq_rc ⟨2, 2, [98]⟩ ⟨2, 2, [98]⟩ w).trans (by rw [rcB_self])
  have hgd := guard_rc
  go_enter Try.func8, Try.ntmps8
  go_wp2_with fail
  refine (rknew_at' E1.out _).mono ?_
  rintro e v1 ⟨⟨A1, k1, c1, rfl, R, fr⟩, b⟩
  clear fr
  have HV : Hid (w.heap.size ≤ v1.heap.size) := Lib.hid b.size
  have X := Box.new v1 #[.slice A1 k1 c1, .int .i64 J.k1.fuse, .bool J.k1.down] 34
  replace R := R.alloc (.cells #[.slice A1 k1 c1, .int .i64 J.k1.fuse, .bool J.k1.down] 34)
  have hk1 : k1 ≤ 3 := by have := R.len; simp only at this; omega
  replace b := b.alloc b.size (.cells #[.slice A1 k1 c1, .int .i64 J.k1.fuse, .bool J.k1.down] 34)
  have x0 := X.at 0 rfl
  have x1 := X.at 1 rfl
  have x2 := X.at 2 rfl
  (try dsimp only)
  (try dsimp only at R)
  go_wp2_with fail
  generalize v1.alloc (.cells #[.slice A1 k1 c1, .int .i64 J.k1.fuse, .bool J.k1.down] 34) = s1 at *
  refine (jformat_at A1 k1 c1 [97] E2.out _ R (by omega) f1 (by decide)).mono ?_
  rintro e v2 ⟨⟨A2, k2, c2, rfl, R'⟩, hb⟩
  replace X := X.belowH hb
  replace b := b.trans (hb.mono b.size)
  clear hb x0 x1 x2 R
  have x0 := X.at 0 rfl
  have x1 := X.at 1 rfl
  have x2 := X.at 2 rfl
  have xc := X.cold
  have hx2 := X.lt
  have hk2 : k2 ≤ 3 := by have := R'.len; simp only at this; omega
  simp only [rv]
  (try dsimp only at R')
  have R := (R'.box3 X (.slice A2 k2 c2) (.int .i64 J.k2.fuse) (.bool J.k2.down)).alloc (.cells #[.int .i64 1, .int .i64 1, .string (strB [97])] 23)
  replace X := (X.three (.slice A2 k2 c2) (.int .i64 J.k2.fuse) (.bool J.k2.down)).alloc (.cells #[.int .i64 1, .int .i64 1, .string (strB [97])] 23)
  have E2' := Box.new (((v2.setCell ⟨v1.heap.size, 0, none⟩ (.slice A2 k2 c2)).setCell ⟨v1.heap.size, 1, none⟩ (.int .i64 J.k2.fuse)).setCell ⟨v1.heap.size, 2, none⟩ (.bool J.k2.down)) #[.int .i64 1, .int .i64 1, .string (strB [97])] 23
  rw [show (((v2.setCell ⟨v1.heap.size, 0, none⟩ (.slice A2 k2 c2)).setCell ⟨v1.heap.size, 1, none⟩ (.int .i64 J.k2.fuse)).setCell ⟨v1.heap.size, 2, none⟩ (.bool J.k2.down)).heap.size = v2.heap.size by simp] at E2'
  have hs2 : (((v2.setCell ⟨v1.heap.size, 0, none⟩ (.slice A2 k2 c2)).setCell ⟨v1.heap.size, 1, none⟩ (.int .i64 J.k2.fuse)).setCell ⟨v1.heap.size, 2, none⟩ (.bool J.k2.down)).heap.size = v2.heap.size := by simp
  replace b := (below_three b (show w.heap.size ≤ v1.heap.size from HV.out) (.slice A2 k2 c2) (.int .i64 J.k2.fuse) (.bool J.k2.down)).alloc (by have := b.size; simp; omega) (.cells #[.int .i64 1, .int .i64 1, .string (strB [97])] 23)
  clear R'
  go_wp2_with fail
  clear x0 x1 x2 xc hs2
  generalize (((v2.setCell ⟨v1.heap.size, 0, none⟩ (.slice A2 k2 c2)).setCell ⟨v1.heap.size, 1, none⟩ (.int .i64 J.k2.fuse)).setCell ⟨v1.heap.size, 2, none⟩ (.bool J.k2.down)).alloc (.cells #[.int .i64 1, .int .i64 1, .string (strB [97])] 23) = s2 at *
  have x0 := X.at 0 rfl
  have x1 := X.at 1 rfl
  have x2 := X.at 2 rfl
  refine (jnext_at A2 k2 c2 [98] E3.out _ R (by omega) f2 (by decide)).mono ?_
  rintro e v3 ⟨⟨A3, k3, c3, rfl, R'⟩, hb⟩
  replace X := X.belowH hb
  replace E2' := E2'.belowH hb
  replace b := b.trans (hb.mono b.size)
  clear hb x0 x1 x2 R
  have x0 := X.at 0 rfl
  have x1 := X.at 1 rfl
  have x2 := X.at 2 rfl
  have xc := X.cold
  have hx3 := X.lt
  have hk3 : k3 ≤ 3 := by have := R'.len; simp only at this; omega
  simp only [rv]
  (try dsimp only at R')
  have R := (R'.box3 X (.slice A3 k3 c3) (.int .i64 J.k3.fuse) (.bool J.k3.down)).alloc (.cells #[.int .i64 2, .int .i64 2, .string (strB [98])] 23)
  replace E2' := (E2'.other3' (show v2.heap.size ≠ v1.heap.size by omega) (.slice A3 k3 c3) (.int .i64 J.k3.fuse) (.bool J.k3.down)).alloc (.cells #[.int .i64 2, .int .i64 2, .string (strB [98])] 23)
  replace X := (X.three (.slice A3 k3 c3) (.int .i64 J.k3.fuse) (.bool J.k3.down)).alloc (.cells #[.int .i64 2, .int .i64 2, .string (strB [98])] 23)
  have E3' := Box.new (((v3.setCell ⟨v1.heap.size, 0, none⟩ (.slice A3 k3 c3)).setCell ⟨v1.heap.size, 1, none⟩ (.int .i64 J.k3.fuse)).setCell ⟨v1.heap.size, 2, none⟩ (.bool J.k3.down)) #[.int .i64 2, .int .i64 2, .string (strB [98])] 23
  rw [show (((v3.setCell ⟨v1.heap.size, 0, none⟩ (.slice A3 k3 c3)).setCell ⟨v1.heap.size, 1, none⟩ (.int .i64 J.k3.fuse)).setCell ⟨v1.heap.size, 2, none⟩ (.bool J.k3.down)).heap.size = v3.heap.size by simp] at E3'
  have hs3 : (((v3.setCell ⟨v1.heap.size, 0, none⟩ (.slice A3 k3 c3)).setCell ⟨v1.heap.size, 1, none⟩ (.int .i64 J.k3.fuse)).setCell ⟨v1.heap.size, 2, none⟩ (.bool J.k3.down)).heap.size = v3.heap.size := by simp
  replace b := (below_three b (show w.heap.size ≤ v1.heap.size from HV.out) (.slice A3 k3 c3) (.int .i64 J.k3.fuse) (.bool J.k3.down)).alloc (by have := b.size; simp; omega) (.cells #[.int .i64 2, .int .i64 2, .string (strB [98])] 23)
  clear R'
  go_wp2_with fail
  clear x0 x1 x2 xc hs3
  generalize (((v3.setCell ⟨v1.heap.size, 0, none⟩ (.slice A3 k3 c3)).setCell ⟨v1.heap.size, 1, none⟩ (.int .i64 J.k3.fuse)).setCell ⟨v1.heap.size, 2, none⟩ (.bool J.k3.down)).alloc (.cells #[.int .i64 2, .int .i64 2, .string (strB [98])] 23) = s3 at *
  have x0 := X.at 0 rfl
  have x1 := X.at 1 rfl
  have x2 := X.at 2 rfl
  refine (jlast_at A3 k3 c3 E4.out _ R (by omega)).mono ?_
  rintro e v4 ⟨rfl, hb⟩
  simp only [rv]
  clear x0 x1 x2 R X
  replace E2' := (E2'.belowH hb).alloc (.cells #[.int .i64 2, .int .i64 2, .string (strB [98])] 23)
  replace E3' := (E3'.belowH hb).alloc (.cells #[.int .i64 2, .int .i64 2, .string (strB [98])] 23)
  replace b := b.trans (hb.mono b.size)
  clear hb
  have E4' := Box.new v4 #[.int .i64 2, .int .i64 2, .string (strB [98])] 23
  replace b := b.alloc b.size (.cells #[.int .i64 2, .int .i64 2, .string (strB [98])] 23)
  have g0 := E2'.at 0 rfl
  have g1 := E2'.at 1 rfl
  have g2 := E2'.at 2 rfl
  have h0 := E3'.at 0 rfl
  have h1 := E3'.at 1 rfl
  have h2 := E3'.at 2 rfl
  have k0 := E4'.at 0 rfl
  have k1 := E4'.at 1 rfl
  have k2 := E4'.at 2 rfl
  go_wp2
  go_ret
  exact ⟨ret_bool (by simp), b⟩
end Go.Proofs.Ytipccalbhlhljaa

