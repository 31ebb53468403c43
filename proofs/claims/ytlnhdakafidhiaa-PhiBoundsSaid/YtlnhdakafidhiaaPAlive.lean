/- The fixed fact of phi's laws. -/
import Derived.Test.YtlnhdakafidhiaaPCode
namespace Go.Proofs.Ytlnhdakafidhiaa
set_option linter.unusedVariables false
set_option linter.unusedSimpArgs false
open Go.RowKit
theorem level_at {x : Wi} {z : Int × Int} (A : Option Addr) (n c : Nat) (now boot : Int) (hnow : I64 now) (hboot : I64 boot) (e : Ph.lvl x now boot = z) (w : World) (h : WRd w ⟨x, A, n, c⟩) (hn : n ≤ 1000) :
    Calls Try.prog 10 #[.agg #[.int .i64 x.last, .slice A n c], .int .i64 now, .int .i64 boot] w (PairBR z w) := by rw [← e]; exact level_any A n c now boot hnow hboot w h hn
theorem rlevel_at {x : Wi} {z : Int × Int} (A : Option Addr) (n c : Nat) (now boot : Int) (hnow : I64 now) (hboot : I64 boot) (e : Ph.lvl x now boot = z) (w : World) (h : WRd w ⟨x, A, n, c⟩) :
    Calls Try.prog 11 #[.agg #[.int .i64 x.last, .slice A n c], .int .i64 now, .int .i64 boot] w (PairBR z w) := by rw [← e]; exact rlevel_any A n c now boot hnow hboot w h
theorem suspect_at {x : Wi} {z : Bool} (A : Option Addr) (n c : Nat) (now boot th : Int) (hnow : I64 now) (hboot : I64 boot) (hth : I64 th) (e : Ph.susp x now boot th = z) (w : World) (h : WRd w ⟨x, A, n, c⟩) (hn : n ≤ 1000) :
    Calls Try.prog 14 #[.agg #[.int .i64 x.last, .slice A n c], .int .i64 now, .int .i64 boot, .int .i64 th] w (BoolR z w) := by rw [← e]; exact suspect_any A n c now boot th hnow hboot hth w h hn
theorem rsuspect_at {x : Wi} {z : Bool} (A : Option Addr) (n c : Nat) (now boot th : Int) (hnow : I64 now) (hboot : I64 boot) (e : Ph.susp x now boot th = z) (w : World) (h : WRd w ⟨x, A, n, c⟩) :
    Calls Try.prog 15 #[.agg #[.int .i64 x.last, .slice A n c], .int .i64 now, .int .i64 boot, .int .i64 th] w (BoolR z w) := by rw [← e]; exact rsuspect_any A n c now boot th hnow hboot w h
theorem first_at {x : Wi} {z : Int × Int} (A : Option Addr) (n c : Nat) (boot th : Int) (hboot : I64 boot) (hth : I64 th) (e : Ph.first x boot th = z) (w : World) (h : WRd w ⟨x, A, n, c⟩) (hn : n ≤ 1000) :
    Calls Try.prog 12 #[.agg #[.int .i64 x.last, .slice A n c], .int .i64 boot, .int .i64 th] w (PairBR z w) := by rw [← e]; exact first_any A n c boot th hboot hth w h hn
theorem rfirst_at {x : Wi} {z : Int × Int} (A : Option Addr) (n c : Nat) (boot th : Int) (hboot : I64 boot) (hth : I64 th) (e : Ph.first x boot th = z) (w : World) (h : WRd w ⟨x, A, n, c⟩) :
    Calls Try.prog 13 #[.agg #[.int .i64 x.last, .slice A n c], .int .i64 boot, .int .i64 th] w (PairBR z w) := by rw [← e]; exact rfirst_any A n c boot th hboot hth w h
theorem bound_at {z : Int} (th mean : Int) (hth : I64 th) (hmean : I64 mean) (e : Ph.bound th mean = z) (w : World) :
    Calls Try.prog 16 #[.int .i64 th, .int .i64 mean] w (IntBR z w) := by rw [← e]; exact bound_any th mean hth hmean w
theorem rbound_at {z : Int} (th mean : Int) (e : Ph.bound th mean = z) (w : World) :
    Calls Try.prog 17 #[.int .i64 th, .int .i64 mean] w (IntBR z w) := by rw [← e]; exact rbound_any th mean w
theorem i64_of {x : Int} (h : -9223372036854775808 ≤ x ∧ x ≤ 9223372036854775807) : I64 x := h
theorem pal1 : Ph.lvl ⟨50, [10, 10]⟩ 150 1 = (4340, 0) := by decide
theorem pal2 : Ph.first ⟨50, [10, 10]⟩ 1 4340 = (151, 0) := by decide
theorem pal3 : Ph.susp ⟨50, [10, 10]⟩ 151 1 4340 = true := by decide
theorem pal4 : Ph.susp ⟨50, [10, 10]⟩ 150 1 4340 = false := by decide
theorem pal5 : Ph.bound 4340 10 = 101 := by decide

set_option maxHeartbeats 4000000 in
set_option maxRecDepth 20000 in
theorem palive_any (w : World) : Calls Try.prog 9 #[] w fun e w' => e = .returned (.bool true) ∧ Below w.heap.size w w' := by
  have r0 := Rd.lit w #[.int .i64 10, .int .i64 10] 3 1 2 rfl
  have R : WRd (w.alloc (.cells #[.int .i64 10, .int .i64 10] 3)) ⟨⟨50, [10, 10]⟩, some ⟨w.heap.size, 0, none⟩, 2, 2⟩ := ⟨r0.more (by simp), Nat.le_refl _, by show 2 ≤ _; omega⟩
  have b := (Below.refl w.heap.size w).alloc (Nat.le_refl _) (.cells #[.int .i64 10, .int .i64 10] 3)
  have X := Box.new (w.alloc (.cells #[.int .i64 10, .int .i64 10] 3)) #[.int .i64 50, .slice (some ⟨w.heap.size, 0, none⟩) 2 2] 24
  rw [show (w.alloc (.cells #[.int .i64 10, .int .i64 10] 3)).heap.size = w.heap.size + 1 by simp] at X
  replace R := R.alloc (.cells #[.int .i64 50, .slice (some ⟨w.heap.size, 0, none⟩) 2 2] 24)
  replace b := b.alloc b.size (.cells #[.int .i64 50, .slice (some ⟨w.heap.size, 0, none⟩) 2 2] 24)
  have x0 := X.at 0 rfl
  have x1 := X.at 1 rfl
  clear r0
  go_enter Try.func9, Try.ntmps9
  go_wp2_with fail
  generalize (w.alloc (.cells #[.int .i64 10, .int .i64 10] 3)).alloc (.cells #[.int .i64 50, .slice (some ⟨w.heap.size, 0, none⟩) 2 2] 24) = w1 at *
  refine (level_at (x := ⟨50, [10, 10]⟩) (some ⟨w.heap.size, 0, none⟩) 2 2 150 1 (i64_of (by omega)) (i64_of (by omega)) pal1 _ R (by omega)).mono ?_
  rintro e v0 ⟨rfl, hb⟩
  replace X := X.belowH hb
  replace R := R.belowH hb
  replace b := b.trans (hb.mono b.size)
  clear hb x0 x1
  have x0 := X.at 0 rfl
  have x1 := X.at 1 rfl
  (try dsimp only)
  go_wp2_with fail
  refine (first_at (x := ⟨50, [10, 10]⟩) (some ⟨w.heap.size, 0, none⟩) 2 2 1 4340 (i64_of (by omega)) (i64_of (by omega)) pal2 _ R (by omega)).mono ?_
  rintro e v1 ⟨rfl, hb⟩
  replace X := X.belowH hb
  replace R := R.belowH hb
  replace b := b.trans (hb.mono b.size)
  clear hb x0 x1
  have x0 := X.at 0 rfl
  have x1 := X.at 1 rfl
  (try dsimp only)
  go_wp2_with fail
  refine (suspect_at (x := ⟨50, [10, 10]⟩) (some ⟨w.heap.size, 0, none⟩) 2 2 151 1 4340 (i64_of (by omega)) (i64_of (by omega)) (i64_of (by omega)) pal3 _ R (by omega)).mono ?_
  rintro e v2 ⟨rfl, hb⟩
  replace X := X.belowH hb
  replace R := R.belowH hb
  replace b := b.trans (hb.mono b.size)
  clear hb x0 x1
  have x0 := X.at 0 rfl
  have x1 := X.at 1 rfl
  (try dsimp only)
  go_wp2_with fail
  refine (suspect_at (x := ⟨50, [10, 10]⟩) (some ⟨w.heap.size, 0, none⟩) 2 2 150 1 4340 (i64_of (by omega)) (i64_of (by omega)) (i64_of (by omega)) pal4 _ R (by omega)).mono ?_
  rintro e v3 ⟨rfl, hb⟩
  replace X := X.belowH hb
  replace R := R.belowH hb
  replace b := b.trans (hb.mono b.size)
  clear hb x0 x1
  have x0 := X.at 0 rfl
  have x1 := X.at 1 rfl
  (try dsimp only)
  go_wp2_with fail
  refine (bound_at 4340 10 (i64_of (by omega)) (i64_of (by omega)) pal5 _).mono ?_
  rintro e v9 ⟨rfl, hb⟩
  replace b := b.trans (hb.mono b.size)
  clear hb x0 x1
  go_wp2
  go_ret
  exact ⟨rfl, b⟩
end Go.Proofs.Ytlnhdakafidhiaa
