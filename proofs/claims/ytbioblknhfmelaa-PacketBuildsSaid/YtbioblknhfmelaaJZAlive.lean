/- ZAlive (merged). -/
import Derived.Test.YtbioblknhfmelaaJZCode
import Derived.Test.YtbioblknhfmelaaJZKal
namespace Go.Proofs.Ytbioblknhfmelaa
set_option linter.unusedVariables false
set_option linter.unusedSimpArgs false
open Go.RowKit
theorem pbuild_at {u : Pv} {m : Int} {l : List UInt8} {z : Int} {n : Nat} (e : Pk.build u.x m = (l, z)) (hl : l.length = n) (w : World) (h : PRd w u) (hm : PMod u) : Calls Try.prog 9 #[pval u, .int .i64 m] w fun e w' => (∃ A c, e = .returned (.tuple #[.slice A n c, .int .i64 z]) ∧ Rd w' w'.heap.size 1 A n (U l) ∧ n ≤ c ∧ c ≤ 9223372036854775807) ∧ Below w.heap.size w w' := by
  have h1 := pbuild_any u m w h hm
  rw [e] at h1
  unfold ByE at h1
  rw [show ((l, z).1).length = n from hl] at h1
  exact h1
theorem rpbuild_at {u : Pv} {m : Int} {l : List UInt8} {z : Int} {n : Nat} (e : Pk.build u.x m = (l, z)) (hl : l.length = n) (w : World) (h : PRd w u) (hm : PMod u) : Calls Try.prog 10 #[pval u, .int .i64 m] w fun e w' => (∃ A c, e = .returned (.tuple #[.slice A n c, .int .i64 z]) ∧ Rd w' w'.heap.size 1 A n (U l) ∧ n ≤ c ∧ c ≤ 9223372036854775807) ∧ Below w.heap.size w w' := by
  have h1 := rpbuild_any u m w h hm
  rw [e] at h1
  unfold ByE at h1
  rw [show ((l, z).1).length = n from hl] at h1
  exact h1
theorem pparse_at {b : List UInt8} {x : Pck} {z : Int} (e : Pk.parse b = (x, z)) (A : Option Addr) (n c : Nat) (w : World) (h : Rd w w.heap.size 1 A n (U b)) (hn : n ≤ 1000000) (hc : n ≤ c ∧ c ≤ 9223372036854775807) : Calls Try.prog 16 #[.slice A n c] w (PkE x z w) := by
  have h1 := pparse_any b A n c w h hn hc
  rw [e] at h1
  exact h1
theorem pname_at {b s : List UInt8} {i : Int} {k : Nat} {z : Int} (e : Pk.nameAt b i = (s, k, z)) (A : Option Addr) (n c : Nat) (w : World) (h : Rd w w.heap.size 1 A n (U b)) (hn : n ≤ 1000000) (hc : n ≤ c ∧ c ≤ 9223372036854775807) : Calls Try.prog 20 #[.slice A n c, .int .i64 i] w fun e w' => e = .returned (.tuple #[.string (strB s), .int .i64 (k : Int), .int .i64 z]) ∧ Below w.heap.size w w' := by
  have h1 := pname_any b i A n c w h hn hc
  rw [e] at h1
  exact h1
theorem pright_at {u : Pv} {z : Bool} (e : decide (Pk.right u.x) = z) (w : World) (h : PRd w u) (hm : PMod u) : Calls Try.prog 12 #[pval u] w (BoB z w) := by subst e; exact pright_any u w h hm
theorem rpright_at {u : Pv} {z : Bool} (e : decide (Pk.right u.x) = z) (w : World) (h : PRd w u) (hm : PMod u) : Calls Try.prog 13 #[pval u] w (BoB z w) := by subst e; exact rpright_any u w h hm
theorem psame_at {u v : Pv} {z : Bool} (e : decide (u.x = v.x) = z) (w : World) (h : PRd w u) (h' : PRd w v) (hu : PMod u) (hv : PMod v) : Calls Try.prog 14 #[pval u, pval v] w (BoB z w) := by subst e; exact psame_any u v w h h' hu hv
theorem rpsame_at {u v : Pv} {z : Bool} (e : decide (u.x = v.x) = z) (w : World) (h : PRd w u) (h' : PRd w v) (hu : PMod u) (hv : PMod v) : Calls Try.prog 15 #[pval u, pval v] w (BoB z w) := by
  subst e
  exact rpsame_any u v w h h' (by have := hu.1; omega) (by have := hv.1; omega)
set_option maxHeartbeats 2000000 in
set_option maxRecDepth 20000 in
theorem palive_any (w : World) : Calls Try.prog 7 #[] w fun e w' => e = .returned (.bool true) ∧ Below w.heap.size w w' := by
  have E1 := Lib.hid Pk.kal1
  have E2 := Lib.hid Pk.kal2
  have E3 := Lib.hid Pk.kal3
  have E4 := Lib.hid Pk.kal4
  have HB : Hid (Below w.heap.size w (((w.alloc (.cells #[.string ⟨#[1, 97, 0]⟩, .int .i64 1, .int .i64 1] 48)).alloc (.cells #[.string ⟨#[1, 65, 0]⟩, .int .i64 1, .int .i64 1, .int .i64 5, .string ⟨#[97, 98, 99, 100]⟩] 50)).alloc (.cells #[.int .i64 7, .int .i64 0, .slice (some ⟨w.heap.size, 0, none⟩) 1 1, .slice (some ⟨w.heap.size + 1, 0, none⟩) 1 1, .slice none 0 0, .slice none 0 0] 25))) := Lib.hid ((((Below.refl w.heap.size w).alloc (Nat.le_refl _) (.cells #[.string ⟨#[1, 97, 0]⟩, .int .i64 1, .int .i64 1] 48)).alloc (by simp) (.cells #[.string ⟨#[1, 65, 0]⟩, .int .i64 1, .int .i64 1, .int .i64 5, .string ⟨#[97, 98, 99, 100]⟩] 50)).alloc (by simp; omega) (.cells #[.int .i64 7, .int .i64 0, .slice (some ⟨w.heap.size, 0, none⟩) 1 1, .slice (some ⟨w.heap.size + 1, 0, none⟩) 1 1, .slice none 0 0, .slice none 0 0] 25))
  have P := Box.new ((w.alloc (.cells #[.string ⟨#[1, 97, 0]⟩, .int .i64 1, .int .i64 1] 48)).alloc (.cells #[.string ⟨#[1, 65, 0]⟩, .int .i64 1, .int .i64 1, .int .i64 5, .string ⟨#[97, 98, 99, 100]⟩] 50)) #[.int .i64 7, .int .i64 0, .slice (some ⟨w.heap.size, 0, none⟩) 1 1, .slice (some ⟨w.heap.size + 1, 0, none⟩) 1 1, .slice none 0 0, .slice none 0 0] 25
  have hs : ((w.alloc (.cells #[.string ⟨#[1, 97, 0]⟩, .int .i64 1, .int .i64 1] 48)).alloc (.cells #[.string ⟨#[1, 65, 0]⟩, .int .i64 1, .int .i64 1, .int .i64 5, .string ⟨#[97, 98, 99, 100]⟩] 50)).heap.size = w.heap.size + 2 := by simp
  rw [hs] at P
  have UR : PRd (((w.alloc (.cells #[.string ⟨#[1, 97, 0]⟩, .int .i64 1, .int .i64 1] 48)).alloc (.cells #[.string ⟨#[1, 65, 0]⟩, .int .i64 1, .int .i64 1, .int .i64 5, .string ⟨#[97, 98, 99, 100]⟩] 50)).alloc (.cells #[.int .i64 7, .int .i64 0, .slice (some ⟨w.heap.size, 0, none⟩) 1 1, .slice (some ⟨w.heap.size + 1, 0, none⟩) 1 1, .slice none 0 0, .slice none 0 0] 25)) (⟨Pk.k0, some ⟨w.heap.size, 0, none⟩, 1, 1, some ⟨w.heap.size + 1, 0, none⟩, 1, 1, none, 0, 0, none, 0, 0⟩ : Pv) := by
    refine ⟨?_, ?_, Rd.zero _ _ _ _, Rd.zero _ _ _ _⟩
    · have h1 := Rd.lit w #[.string ⟨#[1, 97, 0]⟩, .int .i64 1, .int .i64 1] 48 3 1 rfl
      exact ((h1.alloc (by simp) (.cells #[.string ⟨#[1, 65, 0]⟩, .int .i64 1, .int .i64 1, .int .i64 5, .string ⟨#[97, 98, 99, 100]⟩] 50)).alloc (by simp) (.cells #[.int .i64 7, .int .i64 0, .slice (some ⟨w.heap.size, 0, none⟩) 1 1, .slice (some ⟨w.heap.size + 1, 0, none⟩) 1 1, .slice none 0 0, .slice none 0 0] 25)).more (by simp)
    · have h1 := Rd.lit (w.alloc (.cells #[.string ⟨#[1, 97, 0]⟩, .int .i64 1, .int .i64 1] 48)) #[.string ⟨#[1, 65, 0]⟩, .int .i64 1, .int .i64 1, .int .i64 5, .string ⟨#[97, 98, 99, 100]⟩] 50 5 1 rfl
      rw [show (w.alloc (.cells #[.string ⟨#[1, 97, 0]⟩, .int .i64 1, .int .i64 1] 48)).heap.size = w.heap.size + 1 by simp] at h1
      exact (h1.alloc (by simp) (.cells #[.int .i64 7, .int .i64 0, .slice (some ⟨w.heap.size, 0, none⟩) 1 1, .slice (some ⟨w.heap.size + 1, 0, none⟩) 1 1, .slice none 0 0, .slice none 0 0] 25)).more (by simp)
  have UM : PMod (⟨Pk.k0, some ⟨w.heap.size, 0, none⟩, 1, 1, some ⟨w.heap.size + 1, 0, none⟩, 1, 1, none, 0, 0, none, 0, 0⟩ : Pv) := by
    refine ⟨⟨by show 1 ≤ 4398046511104; omega, by show 1 ≤ 4398046511104; omega, by show 0 ≤ 4398046511104; omega, by show 0 ≤ 4398046511104; omega⟩, ?_, ?_, ?_, ?_⟩ <;> simp [Pk.k0]
  obtain ⟨u0, hu0⟩ : ∃ u : Pv, (⟨Pk.k0, some ⟨w.heap.size, 0, none⟩, 1, 1, some ⟨w.heap.size + 1, 0, none⟩, 1, 1, none, 0, 0, none, 0, 0⟩ : Pv) = u := ⟨_, rfl⟩
  have B1 := fun W h => pbuild_at (u := u0) (m := 512) (by rw [← hu0]; exact E1.out) (show Pk.kb.length = 35 from rfl) W h (by rw [← hu0]; exact UM)
  have B2 := fun W h => pbuild_at (u := u0) (m := 20) (by rw [← hu0]; exact E3.out) (show Pk.kc.length = 19 from rfl) W h (by rw [← hu0]; exact UM)
  have PV : Hid (pval u0 = .agg #[.int .i64 7, .int .i64 0, .slice (some ⟨w.heap.size, 0, none⟩) 1 1, .slice (some ⟨w.heap.size + 1, 0, none⟩) 1 1, .slice none 0 0, .slice none 0 0]) := Lib.hid (by rw [← hu0]; rfl)
  rw [hu0] at UR
  rw [PV.out] at B1 B2
  clear UM hu0 hs
  have p0 := P.at 0 rfl
  have p1 := P.at 1 rfl
  have p2 := P.at 2 rfl
  have p3 := P.at 3 rfl
  have p4 := P.at 4 rfl
  have p5 := P.at 5 rfl
  go_enter Try.func7, Try.ntmps7
  go_wp2_with fail
  have b := HB.out
  generalize (((w.alloc (.cells #[.string ⟨#[1, 97, 0]⟩, .int .i64 1, .int .i64 1] 48)).alloc (.cells #[.string ⟨#[1, 65, 0]⟩, .int .i64 1, .int .i64 1, .int .i64 5, .string ⟨#[97, 98, 99, 100]⟩] 50)).alloc (.cells #[.int .i64 7, .int .i64 0, .slice (some ⟨w.heap.size, 0, none⟩) 1 1, .slice (some ⟨w.heap.size + 1, 0, none⟩) 1 1, .slice none 0 0, .slice none 0 0] 25)) = w3 at *
  refine (B1 w3 UR).mono ?_
  clear B1 p0 p1 p2 p3 p4 p5
  rintro e w4 ⟨⟨A4, c4, rfl, R4, hc4⟩, hb4⟩
  have HC4 := Lib.hid hc4
  clear hc4
  replace P := P.belowH hb4
  replace UR := UR.belowH hb4
  replace b := b.trans (hb4.mono b.size)
  go_wp2_with fail
  refine (pparse_at E2.out A4 35 c4 w4 R4 (by omega) HC4.out).mono ?_
  rintro e w5 ⟨⟨u5, hx5, rfl, UR5, UM5⟩, hb5⟩
  obtain ⟨x5, Q1, m1, d1, Q2, m2, d2, Q3, m3, d3, Q4, m4, d4⟩ := u5
  obtain rfl : x5 = Pk.k1 := hx5
  have l2 : m2 = 1 := by have := UR5.2.1.lenR; simpa [Pk.k1] using this.symm
  subst l2
  obtain ⟨ba, oa, ra, ea, hba, hra, _, _, _, _, f4⟩ := UR5.2.1.atR (k := 0) (by show 0 < 1; omega)
  have ea' : Q2 = some ⟨ba, oa, none⟩ := ea
  subst ea'
  obtain rfl : ra = ⟨[1, 97, 0], 1, 1, 5, [97, 98, 99, 100]⟩ := by simpa [Pk.k1] using hra.symm
  simp only [Nat.zero_mul, Nat.add_zero] at f4
  simp only [pval, Pk.k1]
  have HBA := Lib.hid hba
  clear ea hra UM5 hba
  have X := Box.new w5 #[.int .i64 7, .int .i64 0, .slice Q1 m1 d1, .slice (some ⟨ba, oa, none⟩) 1 d2, .slice Q3 m3 d3, .slice Q4 m4 d4] 25
  have hbx := (Below.refl w5.heap.size w5).alloc (Nat.le_refl _) (.cells #[.int .i64 7, .int .i64 0, .slice Q1 m1 d1, .slice (some ⟨ba, oa, none⟩) 1 d2, .slice Q3 m3 d3, .slice Q4 m4 d4] 25)
  have hb45 := hb5.trans (hbx.mono hb5.size)
  replace P := P.belowH hb45
  replace UR := UR.belowH hb45
  replace b := b.trans (hb45.mono b.size)
  replace f4 := cell_of_below hbx f4 HBA.out
  have hsx : w5.heap.size < (w5.alloc (.cells #[.int .i64 7, .int .i64 0, .slice Q1 m1 d1, .slice (some ⟨ba, oa, none⟩) 1 d2, .slice Q3 m3 d3, .slice Q4 m4 d4] 25)).heap.size := by simp
  clear UR5 hb4 hb5 hb45 R4
  have p0 := P.at 0 rfl
  have p1 := P.at 1 rfl
  have p2 := P.at 2 rfl
  have p3 := P.at 3 rfl
  have p4 := P.at 4 rfl
  have p5 := P.at 5 rfl
  go_wp2_with fail
  generalize w5.alloc (.cells #[.int .i64 7, .int .i64 0, .slice Q1 m1 d1, .slice (some ⟨ba, oa, none⟩) 1 d2, .slice Q3 m3 d3, .slice Q4 m4 d4] 25) = w5' at *
  have HX := Lib.hid hsx
  have HB2 : Hid (ba < w5'.heap.size) := Lib.hid (Nat.lt_trans HBA.out hsx)
  clear hbx hsx
  refine (B2 w5' UR).mono ?_
  clear B2 p0 p1 p2 p3 p4 p5 P UR
  rintro e w6 ⟨⟨A6, c6, rfl, R6, _⟩, hb6⟩
  replace X := X.belowH hb6
  replace f4 := cell_of_below hb6 f4 HB2.out
  have HB3 : Hid (ba < w6.heap.size) := Lib.hid (Nat.lt_of_lt_of_le HB2.out hb6.size)
  replace b := b.trans (hb6.mono b.size)
  clear hb6
  have RL := Rd.lit w6 #[.int .u8 192, .int .u8 0] 5 1 2 rfl
  have hbl := (Below.refl w6.heap.size w6).alloc (Nat.le_refl _) (.cells #[.int .u8 192, .int .u8 0] 5)
  have hsl : (w6.alloc (.cells #[.int .u8 192, .int .u8 0] 5)).heap.size = w6.heap.size + 1 := by simp
  go_wp2_with fail
  generalize w6.alloc (.cells #[.int .u8 192, .int .u8 0] 5) = w7 at *
  rw [← hsl] at RL
  refine (pname_at E4.out (some ⟨w6.heap.size, 0, none⟩) 2 2 w7 RL (by omega) ⟨Nat.le_refl _, by omega⟩).mono ?_
  clear RL hsl
  rintro e w8 ⟨rfl, hb8⟩
  have hb68 := hbl.trans (hb8.mono hbl.size)
  replace X := X.belowH hb68
  replace f4 := cell_of_below hb68 f4 HB3.out
  replace R6 := R6.belowH hb68
  replace b := b.trans (hb68.mono b.size)
  clear hb8 hb68 hbl
  obtain ⟨bc, oc, y, rfl, hbc, hy, g2⟩ := R6.atU (k := 2) (by omega)
  obtain rfl : y = 2 := by simpa [Pk.kc] using hy.symm
  have x3 := X.at 3 rfl
  have xs : (strB [97, 98, 99, 100] == (⟨#[97, 98, 99, 100]⟩ : ByteArray)) = true := by rfl
  clear hy R6 X hbc
  go_wp2
  go_ret
  exact ⟨rfl, b⟩
end Go.Proofs.Ytbioblknhfmelaa

