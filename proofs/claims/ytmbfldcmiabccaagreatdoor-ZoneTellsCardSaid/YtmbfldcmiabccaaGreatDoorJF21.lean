/- OAlive VOpen (merged). -/
import Derived.Test.YtmbfldcmiabccaaGreatDoorJF04
import Derived.Test.YtmbfldcmiabccaaGreatDoorJF05
import Derived.Test.YtmbfldcmiabccaaGreatDoorJF07
import Derived.Test.YtmbfldcmiabccaaGreatDoorJF20
namespace Go.Proofs.YtmbfldcmiabccaaGreatDoor
set_option linter.unusedVariables false
set_option linter.unusedSimpArgs false
open Go.RowKit
theorem oints_any {l l' : List Int} {z : Bool} (e : decide (l = l') = z) {A A' : Option Addr} {n n' c c' B B' : Nat} {w : World} (h : Rd w B 1 A n (I l)) (h' : Rd w B' 1 A' n' (I l')) (hn : n ≤ 1000) :
    Calls Tryz.prog 11 #[.slice A n c, .slice A' n' c'] w (BoB z w) := by
  subst e
  exact (cints_any l l' A A' n n' c c' B B' w h h' hn).mono fun _ _ ⟨h1, q, h2⟩ => ⟨h1, by subst h2; exact kdrewC (Below.refl _ _) q⟩
theorem kal_arg (s : Sn) (h : s.sc = Zo.ksc) (h1 : s.v.n = 1 ∧ s.v.c = 1 ∧ s.m = 1 ∧ s.d = 1) (h2 : ∀ x ∈ s.v.l, x.v.n = 3) : SnArg s := by
  have hv : s.v.view = Zo.kview := congrArg Scn.view h
  have hd : s.dom = Zo.kdom := congrArg Scn.dom h
  refine ⟨⟨⟨by omega, fun x hx => by have := h2 x hx; omega, by omega⟩, ?_, by rw [hd]; decide⟩, by rw [hv]; exact Zo.kright, by omega, by omega⟩
  rw [hv]
  intro x hx y hy
  have := ((Zo.kright.1 x hx).2.2.2.2.2.2.1 y hy).2.2.2.2
  omega
set_option maxHeartbeats 8000000 in
set_option maxRecDepth 40000 in
theorem oalive_any (w : World) : Calls Tryz.prog 4 #[] w fun e w' => e = .returned (.bool true) ∧ Below w.heap.size w w' := by
  have C1 := ryencode_any Zo.ksvc ⟨by decide, by decide⟩ w
  rw [Zo.kal0] at C1
  obtain ⟨kv, ekv⟩ : ∃ z, Zo.kv = z := ⟨_, rfl⟩
  rw [ekv] at C1
  have EK := Lib.hid ekv
  clear ekv
  go_enter Tryz.func4, Tryz.ntmps4
  go_wp2_with fail
  refine C1.mono ?_
  clear C1
  rintro e w1 ⟨rfl, b⟩
  have R1 : Rd (w1.alloc (.cells #[.int .i64 0, .int .i64 1, .string ⟨#[117, 112]⟩, .int .i64 1, .int .i64 2, .string ⟨#[97, 98, 99, 100]⟩, .int .i64 3, .int .i64 3, .string (strB kv)] 48)) (w1.alloc (.cells #[.int .i64 0, .int .i64 1, .string ⟨#[117, 112]⟩, .int .i64 1, .int .i64 2, .string ⟨#[97, 98, 99, 100]⟩, .int .i64 3, .int .i64 3, .string (strB kv)] 48)).heap.size 3 (some ⟨w1.heap.size, 0, none⟩) 3 (EC [⟨0, 1, [117, 112]⟩, ⟨1, 2, [97, 98, 99, 100]⟩, ⟨3, 3, kv⟩]) := (Rd.lit w1 #[.int .i64 0, .int .i64 1, .string ⟨#[117, 112]⟩, .int .i64 1, .int .i64 2, .string ⟨#[97, 98, 99, 100]⟩, .int .i64 3, .int .i64 3, .string (strB kv)] 48 3 3 rfl).more (by simp)
  have R2 : Rd ((w1.alloc (.cells #[.int .i64 0, .int .i64 1, .string ⟨#[117, 112]⟩, .int .i64 1, .int .i64 2, .string ⟨#[97, 98, 99, 100]⟩, .int .i64 3, .int .i64 3, .string (strB kv)] 48)).alloc (.cells #[.int .i64 2, .int .i64 1, .int .i64 0, .slice (some ⟨w1.heap.size, 0, none⟩) 3 3] 53)) ((w1.alloc (.cells #[.int .i64 0, .int .i64 1, .string ⟨#[117, 112]⟩, .int .i64 1, .int .i64 2, .string ⟨#[97, 98, 99, 100]⟩, .int .i64 3, .int .i64 3, .string (strB kv)] 48)).alloc (.cells #[.int .i64 2, .int .i64 1, .int .i64 0, .slice (some ⟨w1.heap.size, 0, none⟩) 3 3] 53)).heap.size 4 (some ⟨(w1.alloc (.cells #[.int .i64 0, .int .i64 1, .string ⟨#[117, 112]⟩, .int .i64 1, .int .i64 2, .string ⟨#[97, 98, 99, 100]⟩, .int .i64 3, .int .i64 3, .string (strB kv)] 48)).heap.size, 0, none⟩) 1 (FC ncl [⟨2, ⟨⟨1, 0, [⟨0, 1, [117, 112]⟩, ⟨1, 2, [97, 98, 99, 100]⟩, ⟨3, 3, kv⟩]⟩, some ⟨w1.heap.size, 0, none⟩, 3, 3⟩⟩]) := (Rd.lit (w1.alloc (.cells #[.int .i64 0, .int .i64 1, .string ⟨#[117, 112]⟩, .int .i64 1, .int .i64 2, .string ⟨#[97, 98, 99, 100]⟩, .int .i64 3, .int .i64 3, .string (strB kv)] 48)) #[.int .i64 2, .int .i64 1, .int .i64 0, .slice (some ⟨w1.heap.size, 0, none⟩) 3 3] 53 4 1 rfl).more (by simp)
  have R3 : Rd (((w1.alloc (.cells #[.int .i64 0, .int .i64 1, .string ⟨#[117, 112]⟩, .int .i64 1, .int .i64 2, .string ⟨#[97, 98, 99, 100]⟩, .int .i64 3, .int .i64 3, .string (strB kv)] 48)).alloc (.cells #[.int .i64 2, .int .i64 1, .int .i64 0, .slice (some ⟨w1.heap.size, 0, none⟩) 3 3] 53)).alloc (.cells #[.int .i64 2] 3)) (((w1.alloc (.cells #[.int .i64 0, .int .i64 1, .string ⟨#[117, 112]⟩, .int .i64 1, .int .i64 2, .string ⟨#[97, 98, 99, 100]⟩, .int .i64 3, .int .i64 3, .string (strB kv)] 48)).alloc (.cells #[.int .i64 2, .int .i64 1, .int .i64 0, .slice (some ⟨w1.heap.size, 0, none⟩) 3 3] 53)).alloc (.cells #[.int .i64 2] 3)).heap.size 1 (some ⟨((w1.alloc (.cells #[.int .i64 0, .int .i64 1, .string ⟨#[117, 112]⟩, .int .i64 1, .int .i64 2, .string ⟨#[97, 98, 99, 100]⟩, .int .i64 3, .int .i64 3, .string (strB kv)] 48)).alloc (.cells #[.int .i64 2, .int .i64 1, .int .i64 0, .slice (some ⟨w1.heap.size, 0, none⟩) 3 3] 53)).heap.size, 0, none⟩) 1 (I [2]) := (Rd.lit ((w1.alloc (.cells #[.int .i64 0, .int .i64 1, .string ⟨#[117, 112]⟩, .int .i64 1, .int .i64 2, .string ⟨#[97, 98, 99, 100]⟩, .int .i64 3, .int .i64 3, .string (strB kv)] 48)).alloc (.cells #[.int .i64 2, .int .i64 1, .int .i64 0, .slice (some ⟨w1.heap.size, 0, none⟩) 3 3] 53)) #[.int .i64 2] 3 1 1 rfl).more (by simp)
  have X := Box.new (((w1.alloc (.cells #[.int .i64 0, .int .i64 1, .string ⟨#[117, 112]⟩, .int .i64 1, .int .i64 2, .string ⟨#[97, 98, 99, 100]⟩, .int .i64 3, .int .i64 3, .string (strB kv)] 48)).alloc (.cells #[.int .i64 2, .int .i64 1, .int .i64 0, .slice (some ⟨w1.heap.size, 0, none⟩) 3 3] 53)).alloc (.cells #[.int .i64 2] 3)) #[.slice (some ⟨w1.heap.size + 1, 0, none⟩) 1 1, .slice (some ⟨w1.heap.size + 1 + 1, 0, none⟩) 1 1, .string ⟨#[4, 98, 101, 108, 108, 0]⟩] 25
  replace R1 := ((R1.belowH ((Below.refl _ (w1.alloc (.cells #[.int .i64 0, .int .i64 1, .string ⟨#[117, 112]⟩, .int .i64 1, .int .i64 2, .string ⟨#[97, 98, 99, 100]⟩, .int .i64 3, .int .i64 3, .string (strB kv)] 48))).alloc (Nat.le_refl _) (.cells #[.int .i64 2, .int .i64 1, .int .i64 0, .slice (some ⟨w1.heap.size, 0, none⟩) 3 3] 53))).belowH ((Below.refl _ ((w1.alloc (.cells #[.int .i64 0, .int .i64 1, .string ⟨#[117, 112]⟩, .int .i64 1, .int .i64 2, .string ⟨#[97, 98, 99, 100]⟩, .int .i64 3, .int .i64 3, .string (strB kv)] 48)).alloc (.cells #[.int .i64 2, .int .i64 1, .int .i64 0, .slice (some ⟨w1.heap.size, 0, none⟩) 3 3] 53))).alloc (Nat.le_refl _) (.cells #[.int .i64 2] 3))).belowH ((Below.refl _ (((w1.alloc (.cells #[.int .i64 0, .int .i64 1, .string ⟨#[117, 112]⟩, .int .i64 1, .int .i64 2, .string ⟨#[97, 98, 99, 100]⟩, .int .i64 3, .int .i64 3, .string (strB kv)] 48)).alloc (.cells #[.int .i64 2, .int .i64 1, .int .i64 0, .slice (some ⟨w1.heap.size, 0, none⟩) 3 3] 53)).alloc (.cells #[.int .i64 2] 3))).alloc (Nat.le_refl _) (.cells #[.slice (some ⟨w1.heap.size + 1, 0, none⟩) 1 1, .slice (some ⟨w1.heap.size + 1 + 1, 0, none⟩) 1 1, .string ⟨#[4, 98, 101, 108, 108, 0]⟩] 25))
  replace R2 := (R2.belowH ((Below.refl _ ((w1.alloc (.cells #[.int .i64 0, .int .i64 1, .string ⟨#[117, 112]⟩, .int .i64 1, .int .i64 2, .string ⟨#[97, 98, 99, 100]⟩, .int .i64 3, .int .i64 3, .string (strB kv)] 48)).alloc (.cells #[.int .i64 2, .int .i64 1, .int .i64 0, .slice (some ⟨w1.heap.size, 0, none⟩) 3 3] 53))).alloc (Nat.le_refl _) (.cells #[.int .i64 2] 3))).belowH ((Below.refl _ (((w1.alloc (.cells #[.int .i64 0, .int .i64 1, .string ⟨#[117, 112]⟩, .int .i64 1, .int .i64 2, .string ⟨#[97, 98, 99, 100]⟩, .int .i64 3, .int .i64 3, .string (strB kv)] 48)).alloc (.cells #[.int .i64 2, .int .i64 1, .int .i64 0, .slice (some ⟨w1.heap.size, 0, none⟩) 3 3] 53)).alloc (.cells #[.int .i64 2] 3))).alloc (Nat.le_refl _) (.cells #[.slice (some ⟨w1.heap.size + 1, 0, none⟩) 1 1, .slice (some ⟨w1.heap.size + 1 + 1, 0, none⟩) 1 1, .string ⟨#[4, 98, 101, 108, 108, 0]⟩] 25))
  replace R3 := R3.belowH ((Below.refl _ (((w1.alloc (.cells #[.int .i64 0, .int .i64 1, .string ⟨#[117, 112]⟩, .int .i64 1, .int .i64 2, .string ⟨#[97, 98, 99, 100]⟩, .int .i64 3, .int .i64 3, .string (strB kv)] 48)).alloc (.cells #[.int .i64 2, .int .i64 1, .int .i64 0, .slice (some ⟨w1.heap.size, 0, none⟩) 3 3] 53)).alloc (.cells #[.int .i64 2] 3))).alloc (Nat.le_refl _) (.cells #[.slice (some ⟨w1.heap.size + 1, 0, none⟩) 1 1, .slice (some ⟨w1.heap.size + 1 + 1, 0, none⟩) 1 1, .string ⟨#[4, 98, 101, 108, 108, 0]⟩] 25))
  replace b : Below w.heap.size w ((((w1.alloc (.cells #[.int .i64 0, .int .i64 1, .string ⟨#[117, 112]⟩, .int .i64 1, .int .i64 2, .string ⟨#[97, 98, 99, 100]⟩, .int .i64 3, .int .i64 3, .string (strB kv)] 48)).alloc (.cells #[.int .i64 2, .int .i64 1, .int .i64 0, .slice (some ⟨w1.heap.size, 0, none⟩) 3 3] 53)).alloc (.cells #[.int .i64 2] 3)).alloc (.cells #[.slice (some ⟨w1.heap.size + 1, 0, none⟩) 1 1, .slice (some ⟨w1.heap.size + 1 + 1, 0, none⟩) 1 1, .string ⟨#[4, 98, 101, 108, 108, 0]⟩] 25)) := (((b.alloc b.size (.cells #[.int .i64 0, .int .i64 1, .string ⟨#[117, 112]⟩, .int .i64 1, .int .i64 2, .string ⟨#[97, 98, 99, 100]⟩, .int .i64 3, .int .i64 3, .string (strB kv)] 48)).alloc (by have := b.size; simp; omega) (.cells #[.int .i64 2, .int .i64 1, .int .i64 0, .slice (some ⟨w1.heap.size, 0, none⟩) 3 3] 53)).alloc (by have := b.size; simp; omega) (.cells #[.int .i64 2] 3)).alloc (by have := b.size; simp; omega) (.cells #[.slice (some ⟨w1.heap.size + 1, 0, none⟩) 1 1, .slice (some ⟨w1.heap.size + 1 + 1, 0, none⟩) 1 1, .string ⟨#[4, 98, 101, 108, 108, 0]⟩] 25)
  rw [show (w1.alloc (.cells #[.int .i64 0, .int .i64 1, .string ⟨#[117, 112]⟩, .int .i64 1, .int .i64 2, .string ⟨#[97, 98, 99, 100]⟩, .int .i64 3, .int .i64 3, .string (strB kv)] 48)).heap.size = w1.heap.size + 1 by simp] at R2
  rw [show ((w1.alloc (.cells #[.int .i64 0, .int .i64 1, .string ⟨#[117, 112]⟩, .int .i64 1, .int .i64 2, .string ⟨#[97, 98, 99, 100]⟩, .int .i64 3, .int .i64 3, .string (strB kv)] 48)).alloc (.cells #[.int .i64 2, .int .i64 1, .int .i64 0, .slice (some ⟨w1.heap.size, 0, none⟩) 3 3] 53)).heap.size = w1.heap.size + 1 + 1 by simp] at R3
  rw [show (((w1.alloc (.cells #[.int .i64 0, .int .i64 1, .string ⟨#[117, 112]⟩, .int .i64 1, .int .i64 2, .string ⟨#[97, 98, 99, 100]⟩, .int .i64 3, .int .i64 3, .string (strB kv)] 48)).alloc (.cells #[.int .i64 2, .int .i64 1, .int .i64 0, .slice (some ⟨w1.heap.size, 0, none⟩) 3 3] 53)).alloc (.cells #[.int .i64 2] 3)).heap.size = w1.heap.size + 1 + 1 + 1 by simp] at X
  have x0 := X.at 0 rfl
  have x1 := X.at 1 rfl
  have x2 := X.at 2 rfl
  go_wp2_with fail
  generalize ((((w1.alloc (.cells #[.int .i64 0, .int .i64 1, .string ⟨#[117, 112]⟩, .int .i64 1, .int .i64 2, .string ⟨#[97, 98, 99, 100]⟩, .int .i64 3, .int .i64 3, .string (strB kv)] 48)).alloc (.cells #[.int .i64 2, .int .i64 1, .int .i64 0, .slice (some ⟨w1.heap.size, 0, none⟩) 3 3] 53)).alloc (.cells #[.int .i64 2] 3)).alloc (.cells #[.slice (some ⟨w1.heap.size + 1, 0, none⟩) 1 1, .slice (some ⟨w1.heap.size + 1 + 1, 0, none⟩) 1 1, .string ⟨#[4, 98, 101, 108, 108, 0]⟩] 25)) = w5 at *
  generalize hbk : w1.heap.size = bk at *
  have ES : Hid (Sn.sc (⟨⟨[⟨2, ⟨⟨1, 0, [⟨0, 1, [117, 112]⟩, ⟨1, 2, [97, 98, 99, 100]⟩, ⟨3, 3, kv⟩]⟩, some ⟨bk, 0, none⟩, 3, 3⟩⟩], some ⟨bk + 1, 0, none⟩, 1, 1⟩, [2], some ⟨bk + 1 + 1, 0, none⟩, 1, 1, Zo.kdom⟩ : Sn) = Zo.ksc) := Lib.hid (by rw [← EK.out]; rfl)
  obtain ⟨P, Z, hP⟩ : ∃ P, ZCon (⟨⟨[⟨2, ⟨⟨1, 0, [⟨0, 1, [117, 112]⟩, ⟨1, 2, [97, 98, 99, 100]⟩, ⟨3, 3, kv⟩]⟩, some ⟨bk, 0, none⟩, 3, 3⟩⟩], some ⟨bk + 1, 0, none⟩, 1, 1⟩, [2], some ⟨bk + 1 + 1, 0, none⟩, 1, 1, Zo.kdom⟩ : Sn) P ∧ P w5 := ⟨_, zcon_of (kal_arg (⟨⟨[⟨2, ⟨⟨1, 0, [⟨0, 1, [117, 112]⟩, ⟨1, 2, [97, 98, 99, 100]⟩, ⟨3, 3, kv⟩]⟩, some ⟨bk, 0, none⟩, 3, 3⟩⟩], some ⟨bk + 1, 0, none⟩, 1, 1⟩, [2], some ⟨bk + 1 + 1, 0, none⟩, 1, 1, Zo.kdom⟩ : Sn) ES.out ⟨rfl, rfl, rfl, rfl⟩ (fun x hx => by rw [List.mem_singleton.1 hx])), ⟨⟨R2, fun x hx => by rw [List.mem_singleton.1 hx]; exact R1⟩, R3⟩⟩
  clear R1 R2 R3 hbk
  have T1 := fun W (h : P W) => Z.tell (nm := Zo.kn1) 33 h (by decide)
  have T2 := fun W (h : P W) => Z.tell (nm := Zo.kn2) 1 h (by decide)
  have T3 := fun W (h : P W) => Z.is (nm := Zo.kn3) h (by decide)
  have T4 := fun W (h : P W) => Z.counts h
  rw [ES.out, Zo.kal1] at T1
  rw [ES.out, Zo.kal2] at T2
  rw [ES.out, Zo.kal3] at T3
  rw [ES.out, Zo.kal4] at T4
  have HT1 := Lib.hid T1
  have HT2 := Lib.hid T2
  have HT3 := Lib.hid T3
  have HT4 := Lib.hid T4
  clear T1 T2 T3 T4 ES
  have q1 : (strB Zo.kd1 == (⟨#[0, 0, 0, 7, 0, 80, 2, 110, 50, 4, 98, 101, 108, 108, 0]⟩ : ByteArray)) = true := by decide
  have q2 : (strB [97, 98, 99, 100] == (⟨#[97, 98, 99, 100]⟩ : ByteArray)) = true := by decide
  refine (HT1.out w5 hP).mono ?_
  rintro e w6 ⟨A6, n6, c6, rfl, hl6, R6, _, hb⟩
  obtain rfl : n6 = 1 := hl6.symm
  replace X := X.belowH hb
  replace hP := Z.sb hP hb
  replace b := b.trans (hb.mono b.size)
  clear hb x0 x1 x2 hl6
  have x0 := X.at 0 rfl
  have x1 := X.at 1 rfl
  have x2 := X.at 2 rfl
  go_wp2_with fail
  refine (HT2.out w6 hP).mono ?_
  rintro e w7 ⟨A7, n7, c7, rfl, hl7, R7, _, hb⟩
  obtain rfl : n7 = 1 := hl7.symm
  replace X := X.belowH hb
  replace hP := Z.sb hP hb
  replace b := b.trans (hb.mono b.size)
  replace R6 := R6.belowH hb
  clear hb x0 x1 x2 hl7
  have x0 := X.at 0 rfl
  have x1 := X.at 1 rfl
  have x2 := X.at 2 rfl
  obtain ⟨b6, o6, r6, rfl, hb6, hr6, _, _, _, _, d6⟩ := R6.atR (k := 0) (by omega)
  obtain ⟨b7, o7, r7, rfl, hb7, hr7, _, _, _, _, d7⟩ := R7.atR (k := 0) (by omega)
  obtain rfl : (⟨Zo.kn1, 33, 1, 5, Zo.kd1⟩ : Rrc) = r6 := by simpa using hr6
  obtain rfl : (⟨Zo.kn2, 1, 1, 5, [97, 98, 99, 100]⟩ : Rrc) = r7 := by simpa using hr7
  simp only [Nat.zero_mul, Nat.add_zero] at d6 d7
  clear hr6 hr7 R6 R7
  go_wp2_with fail
  refine (HT3.out w7 hP).mono ?_
  rintro e w8 ⟨rfl, hb⟩
  replace X := X.belowH hb
  replace hP := Z.sb hP hb
  replace b := b.trans (hb.mono b.size)
  clear hb x0 x1 x2
  have x0 := X.at 0 rfl
  have x1 := X.at 1 rfl
  have x2 := X.at 2 rfl
  go_wp2_with fail
  refine (HT4.out w8 hP).mono ?_
  rintro e w9 ⟨A9, n9, c9, rfl, hl9, R9, _, hb⟩
  replace b := b.trans (hb.mono b.size)
  obtain rfl : n9 = 1 := hl9.symm
  have RL := (Rd.lit w9 #[.int .i64 2] 3 1 1 rfl).more (show w9.heap.size + 1 ≤ (w9.alloc (.cells #[.int .i64 2] 3)).heap.size by simp)
  replace R9 := R9.belowH ((Below.refl _ w9).alloc (Nat.le_refl _) (.cells #[.int .i64 2] 3))
  replace b := b.alloc b.size (.cells #[.int .i64 2] 3)
  clear hb x0 x1 x2 hl9
  go_wp2_with fail
  refine (oints_any (l := [2]) (l' := [2]) rfl R9 RL (by omega)).mono ?_
  rintro e w10 ⟨rfl, hb⟩
  replace b := b.trans (hb.mono b.size)
  clear hb R9 RL
  go_wp2
  go_ret
  exact ⟨rfl, b⟩
end Go.Proofs.YtmbfldcmiabccaaGreatDoor

namespace Go.Proofs.YtmbfldcmiabccaaGreatDoor
set_option linter.unusedVariables false
open Go.RowKit Go.ChangeShapes Go.WideShapes Go.Joins Go.Deep

section
variable {H : Type} {enc : TypeId × Value → H} {P : Program} {W : World} {base fuel : Nat} {spare : Nat → Bool} {held : Bool}
theorem state_of {t ts te : TypeId} {f0 f1 f2 g0 g1 g2 : Field} {cs : List Value} {x : DataW H × List MemPlace} (hs : P.underlying t = some (.struct #[f0, f1, f2])) (hone : oneCellFields P #[f0, f1, f2] = true)
    (h0 : P.underlying f0.type = some (.int .i64)) (h1 : P.underlying f1.type = some (.int .i64)) (ht2 : f2.type = ts)
    (ht : P.underlying ts = some (.slice te)) (hse : P.underlying te = some (.struct #[g0, g1, g2])) (honee : oneCellFields P #[g0, g1, g2] = true) (hCe : P.cellsOf te = 3)
    (k0 : P.underlying g0.type = some (.int .i64)) (k1 : P.underlying g1.type = some (.int .i64)) (k2 : P.underlying g2.type = some .string) (hbe : P.bytesOf te = 32)
    (hl : cs.length = 3) (hw : ∀ n ∈ x.1.weights P t, n ≤ 140737488351232) (h : DataW.trod enc P W base spare held fuel t cs = some x) : ∃ v : Sv, cs = scl v ∧ SIn W v := by
  obtain ⟨y0, y1, y2, n, hx, _, q0, q1, q2⟩ := trod_struct3 hs h
  obtain ⟨o0, c0⟩ := hone_of hone 0 f0 rfl
  obtain ⟨o1, c1⟩ := hone_of hone 1 f1 rfl
  obtain ⟨o2, c2⟩ := hone_of hone 2 f2 rfl
  match cs, hl with
  | [u0, u1, u2], _ =>
    rw [o0, c0] at q0
    rw [o1, c1] at q1
    rw [o2, c2, ht2] at q2
    obtain ⟨g, e0, _, w0⟩ := DataW.trod_int h0 q0
    obtain ⟨b, e1, _, w1⟩ := DataW.trod_int h1 q1
    obtain rfl : u0 = .int .i64 g := by simpa using e0
    obtain rfl : u1 = .int .i64 b := by simpa using e1
    rw [hx] at hw
    have hw2 : ∀ n ∈ (DataW.agg [y0.1, y1.1, y2.1]).weights P t, n ≤ 140737488351232 := hw
    rw [weights_struct hs] at hw2
    have q2' : DataW.trod enc P W base spare held n ts [u2] = some y2 := q2
    obtain ⟨a, len, cap, l, rfl, hti⟩ := table_of ht hse honee hCe k0 k1 k2 hbe (fun m hm => hw2 m (DataW.weights_mem_each (j := 2) (t := ts) (d := y2.1) (by simp [ht2]) rfl m hm)) q2'
    exact ⟨⟨⟨g, b, l⟩, a, len, cap⟩, rfl, hti.1, hti.2.2.2.1, fun x hx => (hti.2.2.2.2 x hx).1, w0, w1⟩
theorem nv_of {t tn : TypeId} {f0 f1 : Field} {cs : List Value} {x : DataW H × List MemPlace} (hs : P.underlying t = some (.struct #[f0, f1])) (o0 : f0.offset = 0) (c0 : P.cellsOf f0.type = 1) (o1 : f1.offset = 1) (c1 : P.cellsOf f1.type = 3)
    (h0 : P.underlying f0.type = some (.int .i64)) (ht1 : f1.type = tn)
    (hst : ∀ (cs : List Value) (y : DataW H × List MemPlace) (fl : Nat), cs.length = 3 → (∀ n ∈ y.1.weights P tn, n ≤ 140737488351232) → DataW.trod enc P W base spare held fl tn cs = some y → ∃ v : Sv, cs = scl v ∧ SIn W v)
    (hl : cs.length = 4) (hw : ∀ n ∈ x.1.weights P t, n ≤ 140737488351232) (h : DataW.trod enc P W base spare held fuel t cs = some x) : ∃ v : Nv, cs = ncl v ∧ SIn W v.v ∧ (Lit.int .i64 v.node).wf = true := by
  obtain ⟨y0, y1, n, hx, _, q0, q1⟩ := trod_struct2 hs h
  match cs, hl with
  | [u0, u1, u2, u3], _ =>
    rw [o0, c0] at q0
    rw [o1, c1, ht1] at q1
    obtain ⟨g, e0, _, w0⟩ := DataW.trod_int h0 q0
    obtain rfl : u0 = .int .i64 g := by simpa using e0
    rw [hx] at hw
    have hw2 : ∀ n ∈ (DataW.agg [y0.1, y1.1]).weights P t, n ≤ 140737488351232 := hw
    rw [weights_struct hs] at hw2
    obtain ⟨v, hv, hvi⟩ := hst [u1, u2, u3] y1 n rfl (fun m hm => hw2 m (DataW.weights_mem_each (j := 1) (t := tn) (d := y1.1) (by simp [ht1]) rfl m hm)) q1
    refine ⟨⟨g, v⟩, ?_, hvi, w0⟩
    unfold ncl
    unfold scl at hv
    simp only [List.cons.injEq, and_true] at hv
    obtain ⟨rfl, rfl, rfl⟩ := hv
    rfl
end
end Go.Proofs.YtmbfldcmiabccaaGreatDoor

