/- The document's labels: are two names the same, is one under another one; a name's text. -/
import Derived.Test.YtillnjhmdgmgeaaDoorBRef3
namespace Go.Proofs.YtillnjhmdgmgeaaDoor
set_option linter.unusedVariables false
set_option linter.unusedSimpArgs false
open Go.RowKit
theorem rlright_at {s : List UInt8} {z : Bool} (e : Lab.right s = z) (hs : s.length ≤ 100000) (w : World) : Calls Tryd.prog 14 #[.string (strB s)] w (BoB z w) := by have h := rlright_any s (by omega) w; rw [e] at h; exact h
theorem rlright_big {s : List UInt8} {z : Bool} (e : Lab.right s = z) (hs : s.length ≤ 1100000) (w : World) : Calls Tryd.prog 14 #[.string (strB s)] w (BoB z w) := by have h := rlright_any s hs w; rw [e] at h; exact h
theorem rlower_at {s t : List UInt8} (e : Lab.lower s = t) (hs : s.length ≤ 100000) (w : World) : Calls Tryd.prog 19 #[.string (strB s)] w (TxO t w) := by have h := rlower_any s hs w; rw [e] at h; exact h
set_option maxHeartbeats 2000000 in
theorem rsamel_any (a b : List UInt8) (ha : a.length ≤ 100000) (hb : b.length ≤ 100000) (w : World) : Calls Tryd.prog 21 #[.string (strB a), .string (strB b)] w (BoB (Lab.same a b) w) := by
  obtain ⟨za, hza⟩ : ∃ z, Lab.right a = z := ⟨_, rfl⟩
  obtain ⟨zb, hzb⟩ : ∃ z, Lab.right b = z := ⟨_, rfl⟩
  obtain ⟨ta, hta⟩ : ∃ z, Lab.lower a = z := ⟨_, rfl⟩
  obtain ⟨tb, htb⟩ : ∃ z, Lab.lower b = z := ⟨_, rfl⟩
  have EZ : Hid (Lab.same a b = (za && zb && decide (ta = tb))) := Lib.hid (by unfold Lab.same; rw [hza, hzb, hta, htb])
  obtain ⟨z, hz⟩ : ∃ z, Lab.same a b = z := ⟨_, rfl⟩
  rw [hz] at EZ ⊢
  have HZA := Lib.hid hza
  have HZB := Lib.hid hzb
  have HTA := Lib.hid hta
  have HTB := Lib.hid htb
  have b0 := Below.refl w.heap.size w
  clear hz hza hzb hta htb
  cases za
  · have EZ2 : Hid (z = false) := Lib.hid (by rw [EZ.out]; rfl)
    clear EZ
    go_enter Tryd.func21, Tryd.ntmps21
    go_wp2_with fail
    refine (rlright_at HZA.out ha w).mono ?_
    rintro e w1 ⟨rfl, h1⟩
    replace b0 := b0.trans (h1.mono b0.size)
    clear h1
    go_wp2
    go_ret
    exact ⟨ret_bool EZ2.out.symm, b0⟩
  cases zb
  · have EZ2 : Hid (z = false) := Lib.hid (by rw [EZ.out]; rfl)
    clear EZ
    go_enter Tryd.func21, Tryd.ntmps21
    go_wp2_with fail
    refine (rlright_at HZA.out ha w).mono ?_
    rintro e w1 ⟨rfl, h1⟩
    replace b0 := b0.trans (h1.mono b0.size)
    clear h1
    go_wp2_with fail
    refine (rlright_at HZB.out hb w1).mono ?_
    rintro e w2 ⟨rfl, h1⟩
    replace b0 := b0.trans (h1.mono b0.size)
    clear h1
    go_wp2
    go_ret
    exact ⟨ret_bool EZ2.out.symm, b0⟩
  have EZ2 : Hid ((strB ta == strB tb) = z) := Lib.hid (by rw [EZ.out, strB_beq]; simp)
  have EZ3 : Hid ((ta == tb) = z) := Lib.hid (by rw [EZ.out]; by_cases h : ta = tb <;> simp [h])
  clear EZ
  go_enter Tryd.func21, Tryd.ntmps21
  go_wp2_with fail
  refine (rlright_at HZA.out ha w).mono ?_
  rintro e w1 ⟨rfl, h1⟩
  replace b0 := b0.trans (h1.mono b0.size)
  clear h1
  go_wp2_with fail
  refine (rlright_at HZB.out hb w1).mono ?_
  rintro e w2 ⟨rfl, h1⟩
  replace b0 := b0.trans (h1.mono b0.size)
  clear h1
  go_wp2_with fail
  refine (rlower_at HTA.out ha w2).mono ?_
  rintro e w3 ⟨rfl, h1⟩
  replace b0 := b0.trans (h1.mono b0.size)
  clear h1
  go_wp2_with fail
  refine (rlower_at HTB.out hb w3).mono ?_
  rintro e w4 ⟨rfl, h1⟩
  replace b0 := b0.trans (h1.mono b0.size)
  clear h1
  have e1 := EZ2.out
  have e2 := EZ3.out
  go_wp2
  go_ret
  exact ⟨ret_bool (by first | exact e1 | exact e2 | simp_all), b0⟩
theorem rsamel_at {a b : List UInt8} {z : Bool} (e : Lab.same a b = z) (ha : a.length ≤ 100000) (hb : b.length ≤ 100000) (w : World) : Calls Tryd.prog 21 #[.string (strB a), .string (strB b)] w (BoB z w) := by have h := rsamel_any a b ha hb w; rw [e] at h; exact h
theorem rcut_at {s : List UInt8} {c : Option (List (List UInt8))} (e : Lab.cut s = c) (hs : s.length ≤ 100000) (w : World) : Calls Tryd.prog 32 #[.string (strB s)] w (CutR c w) := by have h := rcut_any s (by omega) w; rw [e] at h; exact h
theorem rjoinl_at {l : List (List UInt8)} {t : List UInt8} {er : Int} (e : Lab.join l = (t, er)) (A : Option Addr) (n c B : Nat) (w : World) (h : Rd w B 1 A n (Tt l)) (hB : B ≤ w.heap.size) (hn : n ≤ 1000000) (hl : ∀ x ∈ l, x.length ≤ 1000000) :
    Calls Tryd.prog 25 #[.slice A n c] w (TxE t er w) := by have h1 := rjoinl_any l A n c B w h hB hn hl; rw [e] at h1; exact h1
theorem Tt_drop (l : List (List UInt8)) (k : Nat) : Tt (l.drop k) = (Tt l).drop k := List.map_drop
namespace Lab
theorem ok_count : ∀ {l : List (List UInt8)}, (∀ s ∈ l, okL s) → l.length ≤ (wires l).length
  | [], _ => Nat.zero_le _
  | s :: l, h => by
    have h1 := ok_count (l := l) fun x hx => h x (by simp [hx])
    rw [wires_cons, List.length_append]
    simp only [wire, List.length_cons]
    omega
theorem ok_few {l : List (List UInt8)} (h : ok l) : l.length ≤ 254 := by
  have h1 := ok_count h.1
  have h2 := h.2
  rw [names_len] at h2
  omega
theorem under_cut {a b : List UInt8} {l m : List (List UInt8)} (ha : cut a = some l) (hb : cut b = some m) : under a b = (decide (m.length ≤ l.length) && same (names (l.drop (l.length - m.length))) b) := by
  unfold under right labels
  rw [ha, hb]
  simp
theorem under_none {a b : List UInt8} (h : cut a = none ∨ cut b = none) : under a b = false := by
  unfold under right
  rcases h with h | h <;> rw [h] <;> simp
end Lab
set_option maxHeartbeats 4000000 in
set_option maxRecDepth 20000 in
theorem runder_any (a b : List UInt8) (ha : a.length ≤ 100000) (hb : b.length ≤ 100000) (w : World) : Calls Tryd.prog 23 #[.string (strB a), .string (strB b)] w (BoB (Lab.under a b) w) := by
  have b0 := Below.refl w.heap.size w
  obtain ⟨ca, hca⟩ : ∃ z, Lab.cut a = z := ⟨_, rfl⟩
  obtain ⟨cb, hcb⟩ : ∃ z, Lab.cut b = z := ⟨_, rfl⟩
  have HCA := Lib.hid hca
  have HCB := Lib.hid hcb
  clear hca hcb
  go_enter Tryd.func23, Tryd.ntmps23
  go_wp2_with fail
  refine (rcut_at HCA.out ha w).mono ?_
  rintro e w1 ⟨⟨A1, n1, c1, rfl, hn1, R1, hc1, hd1⟩, h1⟩
  have HM1 := Lib.hid hn1
  clear hn1
  replace b0 := b0.trans (h1.mono b0.size)
  clear h1
  go_wp2_with fail
  refine (rcut_at HCB.out hb w1).mono ?_
  rintro e w2 ⟨⟨A2, n2, c2, rfl, hn2, R2, hc2, hd2⟩, h1⟩
  have HM2 := Lib.hid hn2
  clear hn2
  replace R1 := R1.belowH h1
  replace b0 := b0.trans (h1.mono b0.size)
  clear h1
  cases ca with
  | none =>
    have EZ : Hid (Lab.under a b = false) := Lib.hid (Lab.under_none (Or.inl HCA.out))
    go_wp2
    go_ret
    exact ⟨ret_bool EZ.out.symm, b0⟩
  | some l =>
    cases cb with
    | none =>
      have EZ : Hid (Lab.under a b = false) := Lib.hid (Lab.under_none (Or.inr HCB.out))
      go_wp2
      go_ret
      exact ⟨ret_bool EZ.out.symm, b0⟩
    | some m =>
      have EZ := Lib.hid (Lab.under_cut HCA.out HCB.out)
      have OL := Lib.hid (Lab.cut_some HCA.out).1
      simp only [Option.getD_some, Option.isSome_some] at R1 R2 ⊢
      have HN1 : Hid (n1 = l.length) := HM1
      have HN2 : Hid (n2 = m.length) := HM2
      have hn3 : n1 ≤ 254 := by have := Lab.ok_few OL.out; have := HN1.out; omega
      by_cases hlt : n1 < n2
      · have EZ2 : Hid (Lab.under a b = false) := Lib.hid (by rw [EZ.out, decide_eq_false (by have := HN1.out; have := HN2.out; omega)]; rfl)
        go_wp2
        go_ret
        exact ⟨ret_bool EZ2.out.symm, b0⟩
      · have OD := Lib.hid (Lab.ok_drop OL.out (l.length - m.length))
        obtain ⟨z, hz⟩ : ∃ z, Lab.same (Lab.names (l.drop (l.length - m.length))) b = z := ⟨_, rfl⟩
        have EZ2 : Hid (Lab.under a b = z) := Lib.hid (by rw [EZ.out, decide_eq_true (by have := HN1.out; have := HN2.out; omega), hz]; rfl)
        have HZ := Lib.hid hz
        have CU := fun w => run_cut_l (P := Tryd.prog) strT w A1 n1 c1 (n1 - n2) ((n1 : Int) - (n2 : Int)) (by omega) (by omega)
        have u1 : IntKind.i64.wrap ((n1 : Int) - (n2 : Int)) = (n1 : Int) - (n2 : Int) := i64_of (by omega) (by omega)
        have u2 : wrap64 ((n1 : Int) - (n2 : Int)) = (n1 : Int) - (n2 : Int) := w64_of (by omega) (by omega)
        have RC := R1.cut1 (cap := c1) (k := n1 - n2) (by omega) hc1
        have ek : l.length - m.length = n1 - n2 := by have := HN1.out; have := HN2.out; omega
        have EK := Lib.hid ek
        rw [← Tt_drop, ← ek] at RC
        rw [ek] at RC
        obtain ⟨d, hd⟩ : ∃ d, l.drop (n1 - n2) = d := ⟨_, rfl⟩
        rw [hd] at RC
        rw [EK.out, hd] at OD HZ
        have hdl : Hid ((Lab.names d).length ≤ 255) := Lib.hid OD.out.2
        have hds : Hid (∀ x ∈ d, x.length ≤ 1000000) := Lib.hid (fun x hx => by have := (OD.out.1 x hx).2; omega)
        have JN := Lib.hid (Lab.join_ok OD.out)
        obtain ⟨t, ht⟩ : ∃ t, Lab.names d = t := ⟨_, rfl⟩
        rw [ht] at hdl HZ JN
        obtain ⟨A3, hA3⟩ : ∃ A3, cutA A1 c1 (n1 - n2) 1 = A3 := ⟨_, rfl⟩
        rw [hA3] at RC CU
        clear hz ek hd ht hA3 R1 R2
        go_wp2_with fail
        refine (rjoinl_at JN.out A3 _ _ _ w2 RC (Nat.le_refl _) (by omega) hds.out).mono ?_
        rintro e w3 ⟨rfl, h1⟩
        replace b0 := b0.trans (h1.mono b0.size)
        clear h1
        clear u1 u2 CU
        go_wp2_with fail
        refine (rsamel_at HZ.out (by have := hdl.out; omega) hb w3).mono ?_
        rintro e w4 ⟨rfl, h1⟩
        replace b0 := b0.trans (h1.mono b0.size)
        go_wp2
        go_ret
        exact ⟨ret_bool EZ2.out.symm, b0⟩
end Go.Proofs.YtillnjhmdgmgeaaDoor
