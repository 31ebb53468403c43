/- The document's choices: whom a round asks. -/
import Derived.Test.YtlafmonfhkgcfaaCRef2
namespace Go.Proofs.Ytlafmonfhkgcfaa
set_option linter.unusedVariables false
set_option linter.unusedSimpArgs false
open Go.RowKit
theorem rcone_at {l : List Int} {p : Nat} {z x : Int} {b : Bool} (hz : (p : Int) = z) (e : cfirst l p = x) (e' : csome l = b) (A : Option Addr) (n c : Nat) (hp : p ≤ 4294967295) (w : World) (h : Rd w w.heap.size 1 A n (I l)) (hn : n ≤ 1000000) :
    Calls Try.prog 10 #[.slice A n c, .int .u32 z] w (IntBC x b w) := by subst hz e e'; exact rcone_any l A n c _ p hp w h hn
theorem rcadd_at {l l' : List Int} {x : Int} (e : Ch.add l x = l') (A : Option Addr) (n c : Nat) (w : World) (h : Rd w w.heap.size 1 A n (I l)) (hc : n ≤ c ∧ c ≤ 9223372036854775807) (hn : n ≤ 1000000) :
    Calls Try.prog 22 #[.slice A n c, .int .i64 x] w (ReadI l' w) := by subst e; exact rcadd_any l x A n c w h hc hn
theorem rchas_at {l : List Int} {x : Int} {b : Bool} (e : decide (x ∈ l) = b) (A : Option Addr) (n c : Nat) (w : World) (h : Rd w w.heap.size 1 A n (I l)) (hn : n ≤ 1000000) :
    Calls Try.prog 17 #[.slice A n c, .int .i64 x] w fun e w' => e = .returned (.bool b) ∧ w = w' := by subst e; exact rchas_any l x A n c _ w h hn
theorem ilen {w : World} {B n : Nat} {A : Option Addr} {l : List Int} (h : Rd w B 1 A n (I l)) : l.length = n := by have := h.len1; rwa [I_length] at this
theorem o1_no (p : Nat) : Ch.o1 [] p = [] := rfl
theorem o1_yes {al : List Int} (h : al ≠ []) (p : Nat) : Ch.o1 al p = [Ch.one al p] := by unfold Ch.o1; rw [if_neg h]
theorem o2_no {al dn out : List Int} {q : Nat} (h : ¬ (dn ≠ [] ∧ q % (al.length + 1) < dn.length)) : Ch.o2 al dn q out = out := by unfold Ch.o2; rw [if_neg h]
theorem o2_yes {al dn out : List Int} {q : Nat} (h : dn ≠ [] ∧ q % (al.length + 1) < dn.length) : Ch.o2 al dn q out = Ch.add out (Ch.one dn q) := by unfold Ch.o2; rw [if_pos h]
theorem o3_no {al sd out : List Int} {p r : Nat} (h : ¬ (sd ≠ [] ∧ (al = [] ∨ Ch.one al p ∉ sd ∨ al.length < sd.length))) : Ch.o3 al sd p r out = out := by unfold Ch.o3; rw [if_neg h]
theorem o3_yes {al sd out : List Int} {p r : Nat} (h : sd ≠ [] ∧ (al = [] ∨ Ch.one al p ∉ sd ∨ al.length < sd.length)) : Ch.o3 al sd p r out = Ch.add out (Ch.one sd r) := by unfold Ch.o3; rw [if_pos h]
theorem nil_of_len {l : List Int} (h : l.length = 0) : l = [] := List.eq_nil_of_length_eq_zero h
theorem ne_of_len {l : List Int} {n : Nat} (h : l.length = n) (h0 : n ≠ 0) : l ≠ [] := fun e => h0 (by rw [← h, e]; rfl)
set_option maxHeartbeats 8000000 in
set_option maxRecDepth 20000 in
theorem rcround_any (al dn sd : List Int) (p q r : Nat) (A1 A2 A3 : Option Addr) (n1 c1 n2 c2 n3 c3 : Nat) (hp : p ≤ 4294967295) (hq : q ≤ 4294967295) (hr : r ≤ 4294967295) (w : World) (h1 : Rd w w.heap.size 1 A1 n1 (I al)) (h2 : Rd w w.heap.size 1 A2 n2 (I dn)) (h3 : Rd w w.heap.size 1 A3 n3 (I sd)) (hn1 : n1 ≤ 1000) (hn2 : n2 ≤ 1000) (hn3 : n3 ≤ 1000) :
    Calls Try.prog 13 #[.slice A1 n1 c1, .slice A2 n2 c2, .slice A3 n3 c3, .agg #[.int .u32 (p : Int), .int .u32 (q : Int), .int .u32 (r : Int)]] w (ReadI (Ch.round al dn sd p q r) w) := by
  have L1 := Lib.hid (ilen h1)
  have L2 := Lib.hid (ilen h2)
  have L3 := Lib.hid (ilen h3)
  have wq : IntKind.i64.wrap (q : Int) = (q : Int) := IntWalk.i64_in _ (by omega)
  have wn : wrap64 ((n1 : Int) + 1) = (n1 : Int) + 1 := by unfold wrap64; omega
  have wn2 : IntKind.i64.wrap ((n1 : Int) + 1) = (n1 : Int) + 1 := IntWalk.i64_in _ (by omega)
  have hn0 : ¬ (n1 : Int) + 1 = 0 := by omega
  obtain ⟨m, hm⟩ : ∃ m, q % (n1 + 1) = m := ⟨_, rfl⟩
  have tq : (q : Int).tmod ((n1 : Int) + 1) = (m : Int) := by
    have := tmod_cast q (n1 + 1)
    rw [hm] at this
    exact_mod_cast this
  obtain ⟨zp, hzp⟩ : ∃ z, (p : Int) = z := ⟨_, rfl⟩
  obtain ⟨zq, hzq⟩ : ∃ z, (q : Int) = z := ⟨_, rfl⟩
  obtain ⟨zr, hzr⟩ : ∃ z, (r : Int) = z := ⟨_, rfl⟩
  rw [hzq] at wq tq
  rw [hzp, hzq, hzr]
  have ZP := Lib.hid hzp
  have ZQ := Lib.hid hzq
  have ZR := Lib.hid hzr
  have HP := Lib.hid hp
  have HQ := Lib.hid hq
  have HR := Lib.hid hr
  have HM := Lib.hid hm
  clear hzp hzq hzr hp hq hr hm
  have D := Box.new w #[.int .u32 zp, .int .u32 zq, .int .u32 zr] 26
  have b := (Below.refl w.heap.size w).alloc (Nat.le_refl _) (.cells #[.int .u32 zp, .int .u32 zq, .int .u32 zr] 26)
  replace h1 := h1.belowH b
  replace h2 := h2.belowH b
  replace h3 := h3.belowH b
  have d0 := D.at 0 rfl
  go_enter Try.func13, Try.ntmps13
  go_wp2_with fail
  generalize w.alloc (.cells #[.int .u32 zp, .int .u32 zq, .int .u32 zr] 26) = wa at *
  by_cases ha : n1 = 0
  · have E0 := nil_of_len (L1.out.trans ha)
    have EO : Hid (Ch.o1 al p = []) := Lib.hid (by rw [E0]; rfl)
    have EA : Hid (al = []) := Lib.hid E0
    refine (rcone_at ZP.out (show cfirst al p = 0 by rw [E0]; rfl) (show csome al = false by rw [E0]; rfl) A1 n1 c1 HP.out wa h1 (by omega)).mono ?_
    rintro _ wb ⟨rfl, hb⟩
    clear E0 ha
    replace h1 := h1.belowH hb
    replace h2 := h2.belowH hb
    replace h3 := h3.belowH hb
    replace D := D.belowH hb
    replace b := b.trans (hb.mono b.size)
    clear hb d0
    have RO : Rd wb wb.heap.size 1 none 0 (I []) := Rd.zero _ _ _ _
    have hco : 0 ≤ 0 ∧ 0 ≤ 9223372036854775807 := by omega
    have hm0 : 0 ≤ 3 := by omega
    have d1 := D.at 1 rfl
    by_cases hd : n2 = 0
    · skip
      have g1 : decide ((0 : Int) < (n2 : Int)) = false := decide_eq_false (by omega)
      have E2 : Hid (Ch.o2 al dn q (Ch.o1 al p) = ([] : List Int)) := Lib.hid (by rw [o2_no (fun h => h.1 (nil_of_len (L2.out.trans hd))), EO.out])
      by_cases hs : n3 = 0
      · have g3 : decide ((0 : Int) < (n3 : Int)) = false := decide_eq_false (by omega)
        have E3 : Hid (Ch.round al dn sd p q r = ([] : List Int)) := Lib.hid (by show Ch.o3 al sd p r (Ch.o2 al dn q (Ch.o1 al p)) = _; rw [E2.out]; exact o3_no (fun h => h.1 (nil_of_len (L3.out.trans hs))))
        have HRO := Lib.hid RO
        clear RO
        go_wp2
        go_ret
        exact ⟨⟨none, 0, 0, rfl, by rw [E3.out]; exact HRO.out, hco⟩, b⟩
      · have g3 : decide ((0 : Int) < (n3 : Int)) = true := decide_eq_true (by omega)
        have EN3 := ne_of_len L3.out hs
        obtain ⟨f3, hf3⟩ : ∃ f, Ch.one sd r = f := ⟨_, rfl⟩
        obtain ⟨l3, hl3⟩ : ∃ l3, Ch.add ([] : List Int) f3 = l3 := ⟨_, rfl⟩
        have E3 : Hid (Ch.round al dn sd p q r = l3) := Lib.hid (by show Ch.o3 al sd p r (Ch.o2 al dn q (Ch.o1 al p)) = _; rw [E2.out, o3_yes ⟨EN3, Or.inl EA.out⟩, hf3, hl3])
        have HL3 := Lib.hid hl3
        have HF3 : Hid (cfirst sd r = f3) := Lib.hid (by rw [cfirst_one EN3, hf3])
        have HS3 : Hid (csome sd = true) := Lib.hid (decide_eq_true EN3)
        clear EN3 hf3 hl3
        have d2 := D.at 2 rfl
        go_wp2_with fail
        refine (rcone_at ZR.out HF3.out HS3.out A3 n3 c3 HR.out wb h3 (by omega)).mono ?_
        rintro _ wf ⟨rfl, hb⟩
        replace h1 := h1.belowH hb
        replace h2 := h2.belowH hb
        replace h3 := h3.belowH hb
        replace D := D.belowH hb
        replace RO := RO.belowH hb
        replace b := b.trans (hb.mono b.size)
        clear hb d2
        go_wp2_with fail
        refine (rcadd_at HL3.out none 0 0 wf RO hco (by omega)).mono ?_
        rintro _ wg ⟨⟨A5, m5, c5, rfl, RN, hcn⟩, hb⟩
        replace b := b.trans (hb.mono b.size)
        have HRN := Lib.hid RN
        clear RN hb RO
        go_wp2
        go_ret
        exact ⟨⟨A5, m5, c5, rfl, by rw [E3.out]; exact HRN.out, hcn⟩, b⟩
    · have g1 : decide ((0 : Int) < (n2 : Int)) = true := decide_eq_true (by omega)
      by_cases hmd : m < n2
      · have g2 : decide ((m : Int) < (n2 : Int)) = true := decide_eq_true (by omega)
        have EN2 := ne_of_len L2.out hd
        obtain ⟨f2, hf2⟩ : ∃ f, Ch.one dn q = f := ⟨_, rfl⟩
        obtain ⟨l2, hl2⟩ : ∃ l2, Ch.add ([] : List Int) f2 = l2 := ⟨_, rfl⟩
        have E2 : Hid (Ch.o2 al dn q (Ch.o1 al p) = l2) := Lib.hid (by rw [o2_yes ⟨EN2, by rw [L1.out, L2.out, HM.out]; exact hmd⟩, EO.out, hf2, hl2])
        have HL2 := Lib.hid hl2
        clear hl2
        have HF2 : Hid (cfirst dn q = f2) := Lib.hid (by rw [cfirst_one EN2, hf2])
        have HS2 : Hid (csome dn = true) := Lib.hid (decide_eq_true EN2)
        clear EN2 hf2
        go_wp2_with fail
        refine (rcone_at ZQ.out HF2.out HS2.out A2 n2 c2 HQ.out wb h2 (by omega)).mono ?_
        rintro _ wd ⟨rfl, hb⟩
        replace h1 := h1.belowH hb
        replace h2 := h2.belowH hb
        replace h3 := h3.belowH hb
        replace D := D.belowH hb
        replace RO := RO.belowH hb
        replace b := b.trans (hb.mono b.size)
        clear hb d1
        go_wp2_with fail
        refine (rcadd_at HL2.out none 0 0 wd RO hco (by omega)).mono ?_
        rintro _ we ⟨⟨A4, m4, c4, rfl, RN, hcn⟩, hb⟩
        have hm4 : m4 ≤ 4 := by have h9 := ilen RN; have h8 := Ch.add_len ([] : List Int) f2; rw [HL2.out] at h8; simp at h8; omega
        replace h1 := h1.belowH hb
        replace h2 := h2.belowH hb
        replace h3 := h3.belowH hb
        replace D := D.belowH hb
        replace b := b.trans (hb.mono b.size)
        clear hb RO hco
        have RO := RN
        have hco := hcn
        clear RN hcn hm0
        have hm0 := hm4
        clear hm4
        by_cases hs : n3 = 0
        · have g3 : decide ((0 : Int) < (n3 : Int)) = false := decide_eq_false (by omega)
          have E3 : Hid (Ch.round al dn sd p q r = l2) := Lib.hid (by show Ch.o3 al sd p r (Ch.o2 al dn q (Ch.o1 al p)) = _; rw [E2.out]; exact o3_no (fun h => h.1 (nil_of_len (L3.out.trans hs))))
          have HRO := Lib.hid RO
          clear RO
          go_wp2
          go_ret
          exact ⟨⟨A4, m4, c4, rfl, by rw [E3.out]; exact HRO.out, hco⟩, b⟩
        · have g3 : decide ((0 : Int) < (n3 : Int)) = true := decide_eq_true (by omega)
          have EN3 := ne_of_len L3.out hs
          obtain ⟨f3, hf3⟩ : ∃ f, Ch.one sd r = f := ⟨_, rfl⟩
          obtain ⟨l3, hl3⟩ : ∃ l3, Ch.add l2 f3 = l3 := ⟨_, rfl⟩
          have E3 : Hid (Ch.round al dn sd p q r = l3) := Lib.hid (by show Ch.o3 al sd p r (Ch.o2 al dn q (Ch.o1 al p)) = _; rw [E2.out, o3_yes ⟨EN3, Or.inl EA.out⟩, hf3, hl3])
          have HL3 := Lib.hid hl3
          have HF3 : Hid (cfirst sd r = f3) := Lib.hid (by rw [cfirst_one EN3, hf3])
          have HS3 : Hid (csome sd = true) := Lib.hid (decide_eq_true EN3)
          clear EN3 hf3 hl3
          have d2 := D.at 2 rfl
          go_wp2_with fail
          refine (rcone_at ZR.out HF3.out HS3.out A3 n3 c3 HR.out we h3 (by omega)).mono ?_
          rintro _ wf ⟨rfl, hb⟩
          replace h1 := h1.belowH hb
          replace h2 := h2.belowH hb
          replace h3 := h3.belowH hb
          replace D := D.belowH hb
          replace RO := RO.belowH hb
          replace b := b.trans (hb.mono b.size)
          clear hb d2
          go_wp2_with fail
          refine (rcadd_at HL3.out A4 m4 c4 wf RO hco (by omega)).mono ?_
          rintro _ wg ⟨⟨A5, m5, c5, rfl, RN, hcn⟩, hb⟩
          replace b := b.trans (hb.mono b.size)
          have HRN := Lib.hid RN
          clear RN hb RO
          go_wp2
          go_ret
          exact ⟨⟨A5, m5, c5, rfl, by rw [E3.out]; exact HRN.out, hcn⟩, b⟩
      · have g2 : decide ((m : Int) < (n2 : Int)) = false := decide_eq_false (by omega)
        have E2 : Hid (Ch.o2 al dn q (Ch.o1 al p) = ([] : List Int)) := Lib.hid (by rw [o2_no (fun h => hmd (by have := h.2; rwa [L1.out, L2.out, HM.out] at this)), EO.out])
        by_cases hs : n3 = 0
        · have g3 : decide ((0 : Int) < (n3 : Int)) = false := decide_eq_false (by omega)
          have E3 : Hid (Ch.round al dn sd p q r = ([] : List Int)) := Lib.hid (by show Ch.o3 al sd p r (Ch.o2 al dn q (Ch.o1 al p)) = _; rw [E2.out]; exact o3_no (fun h => h.1 (nil_of_len (L3.out.trans hs))))
          have HRO := Lib.hid RO
          clear RO
          go_wp2
          go_ret
          exact ⟨⟨none, 0, 0, rfl, by rw [E3.out]; exact HRO.out, hco⟩, b⟩
        · have g3 : decide ((0 : Int) < (n3 : Int)) = true := decide_eq_true (by omega)
          have EN3 := ne_of_len L3.out hs
          obtain ⟨f3, hf3⟩ : ∃ f, Ch.one sd r = f := ⟨_, rfl⟩
          obtain ⟨l3, hl3⟩ : ∃ l3, Ch.add ([] : List Int) f3 = l3 := ⟨_, rfl⟩
          have E3 : Hid (Ch.round al dn sd p q r = l3) := Lib.hid (by show Ch.o3 al sd p r (Ch.o2 al dn q (Ch.o1 al p)) = _; rw [E2.out, o3_yes ⟨EN3, Or.inl EA.out⟩, hf3, hl3])
          have HL3 := Lib.hid hl3
          have HF3 : Hid (cfirst sd r = f3) := Lib.hid (by rw [cfirst_one EN3, hf3])
          have HS3 : Hid (csome sd = true) := Lib.hid (decide_eq_true EN3)
          clear EN3 hf3 hl3
          have d2 := D.at 2 rfl
          go_wp2_with fail
          refine (rcone_at ZR.out HF3.out HS3.out A3 n3 c3 HR.out wb h3 (by omega)).mono ?_
          rintro _ wf ⟨rfl, hb⟩
          replace h1 := h1.belowH hb
          replace h2 := h2.belowH hb
          replace h3 := h3.belowH hb
          replace D := D.belowH hb
          replace RO := RO.belowH hb
          replace b := b.trans (hb.mono b.size)
          clear hb d2
          go_wp2_with fail
          refine (rcadd_at HL3.out none 0 0 wf RO hco (by omega)).mono ?_
          rintro _ wg ⟨⟨A5, m5, c5, rfl, RN, hcn⟩, hb⟩
          replace b := b.trans (hb.mono b.size)
          have HRN := Lib.hid RN
          clear RN hb RO
          go_wp2
          go_ret
          exact ⟨⟨A5, m5, c5, rfl, by rw [E3.out]; exact HRN.out, hcn⟩, b⟩
  · have E0 := ne_of_len L1.out ha
    have EA : Hid (al ≠ []) := Lib.hid E0
    obtain ⟨f1, hf1⟩ : ∃ f, Ch.one al p = f := ⟨_, rfl⟩
    have F1 := Lib.hid hf1
    have EO : Hid (Ch.o1 al p = [f1]) := Lib.hid (by rw [o1_yes E0, hf1])
    refine (rcone_at ZP.out (show cfirst al p = f1 by rw [cfirst_one E0, hf1]) (show csome al = true from decide_eq_true E0) A1 n1 c1 HP.out wa h1 (by omega)).mono ?_
    rintro _ wb ⟨rfl, hb⟩
    clear E0 hf1 ha
    replace h1 := h1.belowH hb
    replace h2 := h2.belowH hb
    replace h3 := h3.belowH hb
    replace D := D.belowH hb
    replace b := b.trans (hb.mono b.size)
    clear hb d0
    go_wp2_with fail
    refine (rcadd_at (l := []) (l' := [f1]) rfl none 0 0 wb (Rd.zero _ _ _ _) (by omega) (by omega)).mono ?_
    rintro _ wc ⟨⟨A0, m0, c0, rfl, RO, hco⟩, hb⟩
    replace h1 := h1.belowH hb
    replace h2 := h2.belowH hb
    replace h3 := h3.belowH hb
    replace D := D.belowH hb
    replace b := b.trans (hb.mono b.size)
    clear hb 
    have hm0 : m0 ≤ 3 := by have h9 := ilen RO; simp at h9; omega
    have d1 := D.at 1 rfl
    by_cases hd : n2 = 0
    · skip
      have g1 : decide ((0 : Int) < (n2 : Int)) = false := decide_eq_false (by omega)
      have E2 : Hid (Ch.o2 al dn q (Ch.o1 al p) = [f1]) := Lib.hid (by rw [o2_no (fun h => h.1 (nil_of_len (L2.out.trans hd))), EO.out])
      by_cases hs : n3 = 0
      · have g3 : decide ((0 : Int) < (n3 : Int)) = false := decide_eq_false (by omega)
        have E3 : Hid (Ch.round al dn sd p q r = [f1]) := Lib.hid (by show Ch.o3 al sd p r (Ch.o2 al dn q (Ch.o1 al p)) = _; rw [E2.out]; exact o3_no (fun h => h.1 (nil_of_len (L3.out.trans hs))))
        have HRO := Lib.hid RO
        clear RO
        go_wp2
        go_ret
        exact ⟨⟨A0, m0, c0, rfl, by rw [E3.out]; exact HRO.out, hco⟩, b⟩
      · have g3 : decide ((0 : Int) < (n3 : Int)) = true := decide_eq_true (by omega)
        by_cases hh : f1 ∈ sd
        · have HD : Hid (decide (f1 ∈ sd) = true) := Lib.hid (decide_eq_true hh)
          go_wp2_with fail
          refine (rchas_at HD.out A3 n3 c3 wc h3 (by omega)).mono ?_
          rintro _ wh ⟨rfl, rfl⟩
          by_cases hl : n1 < n3
          · have g4 : decide ((n1 : Int) < (n3 : Int)) = true := decide_eq_true (by omega)
            have EN3 := ne_of_len L3.out hs
            obtain ⟨f3, hf3⟩ : ∃ f, Ch.one sd r = f := ⟨_, rfl⟩
            obtain ⟨l3, hl3⟩ : ∃ l3, Ch.add [f1] f3 = l3 := ⟨_, rfl⟩
            have E3 : Hid (Ch.round al dn sd p q r = l3) := Lib.hid (by show Ch.o3 al sd p r (Ch.o2 al dn q (Ch.o1 al p)) = _; rw [E2.out, o3_yes ⟨EN3, Or.inr (Or.inr (by rw [L1.out, L3.out]; exact hl))⟩, hf3, hl3])
            have HL3 := Lib.hid hl3
            have HF3 : Hid (cfirst sd r = f3) := Lib.hid (by rw [cfirst_one EN3, hf3])
            have HS3 : Hid (csome sd = true) := Lib.hid (decide_eq_true EN3)
            clear EN3 hf3 hl3
            have d2 := D.at 2 rfl
            go_wp2_with fail
            refine (rcone_at ZR.out HF3.out HS3.out A3 n3 c3 HR.out wc h3 (by omega)).mono ?_
            rintro _ wf ⟨rfl, hb⟩
            replace h1 := h1.belowH hb
            replace h2 := h2.belowH hb
            replace h3 := h3.belowH hb
            replace D := D.belowH hb
            replace RO := RO.belowH hb
            replace b := b.trans (hb.mono b.size)
            clear hb d2
            go_wp2_with fail
            refine (rcadd_at HL3.out A0 m0 c0 wf RO hco (by omega)).mono ?_
            rintro _ wg ⟨⟨A5, m5, c5, rfl, RN, hcn⟩, hb⟩
            replace b := b.trans (hb.mono b.size)
            have HRN := Lib.hid RN
            clear RN hb RO
            go_wp2
            go_ret
            exact ⟨⟨A5, m5, c5, rfl, by rw [E3.out]; exact HRN.out, hcn⟩, b⟩
          · have g4 : decide ((n1 : Int) < (n3 : Int)) = false := decide_eq_false (by omega)
            have E3 : Hid (Ch.round al dn sd p q r = [f1]) := Lib.hid (by show Ch.o3 al sd p r (Ch.o2 al dn q (Ch.o1 al p)) = _; rw [E2.out]; exact o3_no (fun h => by rcases h.2 with h | h | h; exact EA.out h; exact h (by rw [F1.out]; exact hh); exact hl (by rwa [L1.out, L3.out] at h)))
            have HRO := Lib.hid RO
            clear RO
            go_wp2
            go_ret
            exact ⟨⟨A0, m0, c0, rfl, by rw [E3.out]; exact HRO.out, hco⟩, b⟩
        · have HD : Hid (decide (f1 ∈ sd) = false) := Lib.hid (decide_eq_false hh)
          go_wp2_with fail
          refine (rchas_at HD.out A3 n3 c3 wc h3 (by omega)).mono ?_
          rintro _ wh ⟨rfl, rfl⟩
          have EN3 := ne_of_len L3.out hs
          obtain ⟨f3, hf3⟩ : ∃ f, Ch.one sd r = f := ⟨_, rfl⟩
          obtain ⟨l3, hl3⟩ : ∃ l3, Ch.add [f1] f3 = l3 := ⟨_, rfl⟩
          have E3 : Hid (Ch.round al dn sd p q r = l3) := Lib.hid (by show Ch.o3 al sd p r (Ch.o2 al dn q (Ch.o1 al p)) = _; rw [E2.out, o3_yes ⟨EN3, Or.inr (Or.inl (by rw [F1.out]; exact hh))⟩, hf3, hl3])
          have HL3 := Lib.hid hl3
          have HF3 : Hid (cfirst sd r = f3) := Lib.hid (by rw [cfirst_one EN3, hf3])
          have HS3 : Hid (csome sd = true) := Lib.hid (decide_eq_true EN3)
          clear EN3 hf3 hl3
          have d2 := D.at 2 rfl
          go_wp2_with fail
          refine (rcone_at ZR.out HF3.out HS3.out A3 n3 c3 HR.out wc h3 (by omega)).mono ?_
          rintro _ wf ⟨rfl, hb⟩
          replace h1 := h1.belowH hb
          replace h2 := h2.belowH hb
          replace h3 := h3.belowH hb
          replace D := D.belowH hb
          replace RO := RO.belowH hb
          replace b := b.trans (hb.mono b.size)
          clear hb d2
          go_wp2_with fail
          refine (rcadd_at HL3.out A0 m0 c0 wf RO hco (by omega)).mono ?_
          rintro _ wg ⟨⟨A5, m5, c5, rfl, RN, hcn⟩, hb⟩
          replace b := b.trans (hb.mono b.size)
          have HRN := Lib.hid RN
          clear RN hb RO
          go_wp2
          go_ret
          exact ⟨⟨A5, m5, c5, rfl, by rw [E3.out]; exact HRN.out, hcn⟩, b⟩
    · have g1 : decide ((0 : Int) < (n2 : Int)) = true := decide_eq_true (by omega)
      by_cases hmd : m < n2
      · have g2 : decide ((m : Int) < (n2 : Int)) = true := decide_eq_true (by omega)
        have EN2 := ne_of_len L2.out hd
        obtain ⟨f2, hf2⟩ : ∃ f, Ch.one dn q = f := ⟨_, rfl⟩
        obtain ⟨l2, hl2⟩ : ∃ l2, Ch.add [f1] f2 = l2 := ⟨_, rfl⟩
        have E2 : Hid (Ch.o2 al dn q (Ch.o1 al p) = l2) := Lib.hid (by rw [o2_yes ⟨EN2, by rw [L1.out, L2.out, HM.out]; exact hmd⟩, EO.out, hf2, hl2])
        have HL2 := Lib.hid hl2
        clear hl2
        have HF2 : Hid (cfirst dn q = f2) := Lib.hid (by rw [cfirst_one EN2, hf2])
        have HS2 : Hid (csome dn = true) := Lib.hid (decide_eq_true EN2)
        clear EN2 hf2
        go_wp2_with fail
        refine (rcone_at ZQ.out HF2.out HS2.out A2 n2 c2 HQ.out wc h2 (by omega)).mono ?_
        rintro _ wd ⟨rfl, hb⟩
        replace h1 := h1.belowH hb
        replace h2 := h2.belowH hb
        replace h3 := h3.belowH hb
        replace D := D.belowH hb
        replace RO := RO.belowH hb
        replace b := b.trans (hb.mono b.size)
        clear hb d1
        go_wp2_with fail
        refine (rcadd_at HL2.out A0 m0 c0 wd RO hco (by omega)).mono ?_
        rintro _ we ⟨⟨A4, m4, c4, rfl, RN, hcn⟩, hb⟩
        have hm4 : m4 ≤ 4 := by have h9 := ilen RN; have h8 := Ch.add_len [f1] f2; rw [HL2.out] at h8; simp at h8; omega
        replace h1 := h1.belowH hb
        replace h2 := h2.belowH hb
        replace h3 := h3.belowH hb
        replace D := D.belowH hb
        replace b := b.trans (hb.mono b.size)
        clear hb RO hco
        have RO := RN
        have hco := hcn
        clear RN hcn hm0
        have hm0 := hm4
        clear hm4
        by_cases hs : n3 = 0
        · have g3 : decide ((0 : Int) < (n3 : Int)) = false := decide_eq_false (by omega)
          have E3 : Hid (Ch.round al dn sd p q r = l2) := Lib.hid (by show Ch.o3 al sd p r (Ch.o2 al dn q (Ch.o1 al p)) = _; rw [E2.out]; exact o3_no (fun h => h.1 (nil_of_len (L3.out.trans hs))))
          have HRO := Lib.hid RO
          clear RO
          go_wp2
          go_ret
          exact ⟨⟨A4, m4, c4, rfl, by rw [E3.out]; exact HRO.out, hco⟩, b⟩
        · have g3 : decide ((0 : Int) < (n3 : Int)) = true := decide_eq_true (by omega)
          by_cases hh : f1 ∈ sd
          · have HD : Hid (decide (f1 ∈ sd) = true) := Lib.hid (decide_eq_true hh)
            go_wp2_with fail
            refine (rchas_at HD.out A3 n3 c3 we h3 (by omega)).mono ?_
            rintro _ wh ⟨rfl, rfl⟩
            by_cases hl : n1 < n3
            · have g4 : decide ((n1 : Int) < (n3 : Int)) = true := decide_eq_true (by omega)
              have EN3 := ne_of_len L3.out hs
              obtain ⟨f3, hf3⟩ : ∃ f, Ch.one sd r = f := ⟨_, rfl⟩
              obtain ⟨l3, hl3⟩ : ∃ l3, Ch.add l2 f3 = l3 := ⟨_, rfl⟩
              have E3 : Hid (Ch.round al dn sd p q r = l3) := Lib.hid (by show Ch.o3 al sd p r (Ch.o2 al dn q (Ch.o1 al p)) = _; rw [E2.out, o3_yes ⟨EN3, Or.inr (Or.inr (by rw [L1.out, L3.out]; exact hl))⟩, hf3, hl3])
              have HL3 := Lib.hid hl3
              have HF3 : Hid (cfirst sd r = f3) := Lib.hid (by rw [cfirst_one EN3, hf3])
              have HS3 : Hid (csome sd = true) := Lib.hid (decide_eq_true EN3)
              clear EN3 hf3 hl3
              have d2 := D.at 2 rfl
              go_wp2_with fail
              refine (rcone_at ZR.out HF3.out HS3.out A3 n3 c3 HR.out we h3 (by omega)).mono ?_
              rintro _ wf ⟨rfl, hb⟩
              replace h1 := h1.belowH hb
              replace h2 := h2.belowH hb
              replace h3 := h3.belowH hb
              replace D := D.belowH hb
              replace RO := RO.belowH hb
              replace b := b.trans (hb.mono b.size)
              clear hb d2
              go_wp2_with fail
              refine (rcadd_at HL3.out A4 m4 c4 wf RO hco (by omega)).mono ?_
              rintro _ wg ⟨⟨A5, m5, c5, rfl, RN, hcn⟩, hb⟩
              replace b := b.trans (hb.mono b.size)
              have HRN := Lib.hid RN
              clear RN hb RO
              go_wp2
              go_ret
              exact ⟨⟨A5, m5, c5, rfl, by rw [E3.out]; exact HRN.out, hcn⟩, b⟩
            · have g4 : decide ((n1 : Int) < (n3 : Int)) = false := decide_eq_false (by omega)
              have E3 : Hid (Ch.round al dn sd p q r = l2) := Lib.hid (by show Ch.o3 al sd p r (Ch.o2 al dn q (Ch.o1 al p)) = _; rw [E2.out]; exact o3_no (fun h => by rcases h.2 with h | h | h; exact EA.out h; exact h (by rw [F1.out]; exact hh); exact hl (by rwa [L1.out, L3.out] at h)))
              have HRO := Lib.hid RO
              clear RO
              go_wp2
              go_ret
              exact ⟨⟨A4, m4, c4, rfl, by rw [E3.out]; exact HRO.out, hco⟩, b⟩
          · have HD : Hid (decide (f1 ∈ sd) = false) := Lib.hid (decide_eq_false hh)
            go_wp2_with fail
            refine (rchas_at HD.out A3 n3 c3 we h3 (by omega)).mono ?_
            rintro _ wh ⟨rfl, rfl⟩
            have EN3 := ne_of_len L3.out hs
            obtain ⟨f3, hf3⟩ : ∃ f, Ch.one sd r = f := ⟨_, rfl⟩
            obtain ⟨l3, hl3⟩ : ∃ l3, Ch.add l2 f3 = l3 := ⟨_, rfl⟩
            have E3 : Hid (Ch.round al dn sd p q r = l3) := Lib.hid (by show Ch.o3 al sd p r (Ch.o2 al dn q (Ch.o1 al p)) = _; rw [E2.out, o3_yes ⟨EN3, Or.inr (Or.inl (by rw [F1.out]; exact hh))⟩, hf3, hl3])
            have HL3 := Lib.hid hl3
            have HF3 : Hid (cfirst sd r = f3) := Lib.hid (by rw [cfirst_one EN3, hf3])
            have HS3 : Hid (csome sd = true) := Lib.hid (decide_eq_true EN3)
            clear EN3 hf3 hl3
            have d2 := D.at 2 rfl
            go_wp2_with fail
            refine (rcone_at ZR.out HF3.out HS3.out A3 n3 c3 HR.out we h3 (by omega)).mono ?_
            rintro _ wf ⟨rfl, hb⟩
            replace h1 := h1.belowH hb
            replace h2 := h2.belowH hb
            replace h3 := h3.belowH hb
            replace D := D.belowH hb
            replace RO := RO.belowH hb
            replace b := b.trans (hb.mono b.size)
            clear hb d2
            go_wp2_with fail
            refine (rcadd_at HL3.out A4 m4 c4 wf RO hco (by omega)).mono ?_
            rintro _ wg ⟨⟨A5, m5, c5, rfl, RN, hcn⟩, hb⟩
            replace b := b.trans (hb.mono b.size)
            have HRN := Lib.hid RN
            clear RN hb RO
            go_wp2
            go_ret
            exact ⟨⟨A5, m5, c5, rfl, by rw [E3.out]; exact HRN.out, hcn⟩, b⟩
      · have g2 : decide ((m : Int) < (n2 : Int)) = false := decide_eq_false (by omega)
        have E2 : Hid (Ch.o2 al dn q (Ch.o1 al p) = [f1]) := Lib.hid (by rw [o2_no (fun h => hmd (by have := h.2; rwa [L1.out, L2.out, HM.out] at this)), EO.out])
        by_cases hs : n3 = 0
        · have g3 : decide ((0 : Int) < (n3 : Int)) = false := decide_eq_false (by omega)
          have E3 : Hid (Ch.round al dn sd p q r = [f1]) := Lib.hid (by show Ch.o3 al sd p r (Ch.o2 al dn q (Ch.o1 al p)) = _; rw [E2.out]; exact o3_no (fun h => h.1 (nil_of_len (L3.out.trans hs))))
          have HRO := Lib.hid RO
          clear RO
          go_wp2
          go_ret
          exact ⟨⟨A0, m0, c0, rfl, by rw [E3.out]; exact HRO.out, hco⟩, b⟩
        · have g3 : decide ((0 : Int) < (n3 : Int)) = true := decide_eq_true (by omega)
          by_cases hh : f1 ∈ sd
          · have HD : Hid (decide (f1 ∈ sd) = true) := Lib.hid (decide_eq_true hh)
            go_wp2_with fail
            refine (rchas_at HD.out A3 n3 c3 wc h3 (by omega)).mono ?_
            rintro _ wh ⟨rfl, rfl⟩
            by_cases hl : n1 < n3
            · have g4 : decide ((n1 : Int) < (n3 : Int)) = true := decide_eq_true (by omega)
              have EN3 := ne_of_len L3.out hs
              obtain ⟨f3, hf3⟩ : ∃ f, Ch.one sd r = f := ⟨_, rfl⟩
              obtain ⟨l3, hl3⟩ : ∃ l3, Ch.add [f1] f3 = l3 := ⟨_, rfl⟩
              have E3 : Hid (Ch.round al dn sd p q r = l3) := Lib.hid (by show Ch.o3 al sd p r (Ch.o2 al dn q (Ch.o1 al p)) = _; rw [E2.out, o3_yes ⟨EN3, Or.inr (Or.inr (by rw [L1.out, L3.out]; exact hl))⟩, hf3, hl3])
              have HL3 := Lib.hid hl3
              have HF3 : Hid (cfirst sd r = f3) := Lib.hid (by rw [cfirst_one EN3, hf3])
              have HS3 : Hid (csome sd = true) := Lib.hid (decide_eq_true EN3)
              clear EN3 hf3 hl3
              have d2 := D.at 2 rfl
              go_wp2_with fail
              refine (rcone_at ZR.out HF3.out HS3.out A3 n3 c3 HR.out wc h3 (by omega)).mono ?_
              rintro _ wf ⟨rfl, hb⟩
              replace h1 := h1.belowH hb
              replace h2 := h2.belowH hb
              replace h3 := h3.belowH hb
              replace D := D.belowH hb
              replace RO := RO.belowH hb
              replace b := b.trans (hb.mono b.size)
              clear hb d2
              go_wp2_with fail
              refine (rcadd_at HL3.out A0 m0 c0 wf RO hco (by omega)).mono ?_
              rintro _ wg ⟨⟨A5, m5, c5, rfl, RN, hcn⟩, hb⟩
              replace b := b.trans (hb.mono b.size)
              have HRN := Lib.hid RN
              clear RN hb RO
              go_wp2
              go_ret
              exact ⟨⟨A5, m5, c5, rfl, by rw [E3.out]; exact HRN.out, hcn⟩, b⟩
            · have g4 : decide ((n1 : Int) < (n3 : Int)) = false := decide_eq_false (by omega)
              have E3 : Hid (Ch.round al dn sd p q r = [f1]) := Lib.hid (by show Ch.o3 al sd p r (Ch.o2 al dn q (Ch.o1 al p)) = _; rw [E2.out]; exact o3_no (fun h => by rcases h.2 with h | h | h; exact EA.out h; exact h (by rw [F1.out]; exact hh); exact hl (by rwa [L1.out, L3.out] at h)))
              have HRO := Lib.hid RO
              clear RO
              go_wp2
              go_ret
              exact ⟨⟨A0, m0, c0, rfl, by rw [E3.out]; exact HRO.out, hco⟩, b⟩
          · have HD : Hid (decide (f1 ∈ sd) = false) := Lib.hid (decide_eq_false hh)
            go_wp2_with fail
            refine (rchas_at HD.out A3 n3 c3 wc h3 (by omega)).mono ?_
            rintro _ wh ⟨rfl, rfl⟩
            have EN3 := ne_of_len L3.out hs
            obtain ⟨f3, hf3⟩ : ∃ f, Ch.one sd r = f := ⟨_, rfl⟩
            obtain ⟨l3, hl3⟩ : ∃ l3, Ch.add [f1] f3 = l3 := ⟨_, rfl⟩
            have E3 : Hid (Ch.round al dn sd p q r = l3) := Lib.hid (by show Ch.o3 al sd p r (Ch.o2 al dn q (Ch.o1 al p)) = _; rw [E2.out, o3_yes ⟨EN3, Or.inr (Or.inl (by rw [F1.out]; exact hh))⟩, hf3, hl3])
            have HL3 := Lib.hid hl3
            have HF3 : Hid (cfirst sd r = f3) := Lib.hid (by rw [cfirst_one EN3, hf3])
            have HS3 : Hid (csome sd = true) := Lib.hid (decide_eq_true EN3)
            clear EN3 hf3 hl3
            have d2 := D.at 2 rfl
            go_wp2_with fail
            refine (rcone_at ZR.out HF3.out HS3.out A3 n3 c3 HR.out wc h3 (by omega)).mono ?_
            rintro _ wf ⟨rfl, hb⟩
            replace h1 := h1.belowH hb
            replace h2 := h2.belowH hb
            replace h3 := h3.belowH hb
            replace D := D.belowH hb
            replace RO := RO.belowH hb
            replace b := b.trans (hb.mono b.size)
            clear hb d2
            go_wp2_with fail
            refine (rcadd_at HL3.out A0 m0 c0 wf RO hco (by omega)).mono ?_
            rintro _ wg ⟨⟨A5, m5, c5, rfl, RN, hcn⟩, hb⟩
            replace b := b.trans (hb.mono b.size)
            have HRN := Lib.hid RN
            clear RN hb RO
            go_wp2
            go_ret
            exact ⟨⟨A5, m5, c5, rfl, by rw [E3.out]; exact HRN.out, hcn⟩, b⟩
end Go.Proofs.Ytlafmonfhkgcfaa
