/- The document's labels: a text's name. -/
import Derived.Test.YtillnjhmdgmgeaaDoorBRef5
import Derived.Deep.AppendLies
import Derived.Laws.OwnMore
namespace Go.Proofs.YtillnjhmdgmgeaaDoor
set_option linter.unusedVariables false
set_option linter.unusedSimpArgs false
open Go.RowKit
namespace Lab
theorem of_some {t u : List UInt8} (h1 : t ≠ []) (h2 : t ≠ [46]) (h : trim t = u) : of t = join (parts u) := by
  unfold of
  rw [if_neg (by rintro (h3 | h3); exact h1 h3; exact h2 h3), h]
end Lab
set_option maxHeartbeats 8000000 in
set_option maxRecDepth 20000 in
theorem rof_any (t : List UInt8) (ht : t.length ≤ 100000) (w : World) : Calls Tryd.prog 10 #[.string (strB t)] w (TxE (Lab.of t).1 (Lab.of t).2 w) := by
  by_cases h0 : t = []
  · have q1 : (strB t == (⟨#[]⟩ : ByteArray)) = true := by rw [h0]; rfl
    have q2 : t.isEmpty = true := by rw [h0]; rfl
    have CN : Hid (Lab.of t = ([0], 0)) := Lib.hid (by rw [h0]; rfl)
    clear h0
    go_enter Tryd.func10, Tryd.ntmps10
    go_wp2
    go_ret2
    exact ⟨by rw [CN.out]; rfl, Below.refl _ _⟩
  have q1 : (strB t == (⟨#[]⟩ : ByteArray)) = false := by have h1 := strB_beq t []; rw [decide_eq_false h0] at h1; exact h1
  have q2 : t.isEmpty = false := by cases t with | nil => exact absurd rfl h0 | cons a b => rfl
  by_cases h46 : t = [46]
  · have q3 : (strB t == (⟨#[46]⟩ : ByteArray)) = true := by rw [h46]; rfl
    have q4 : (t == [46]) = true := by rw [h46]; rfl
    have CN : Hid (Lab.of t = ([0], 0)) := Lib.hid (by rw [h46]; rfl)
    clear h0 h46
    go_enter Tryd.func10, Tryd.ntmps10
    go_wp2
    go_ret2
    exact ⟨by rw [CN.out]; rfl, Below.refl _ _⟩
  have q3 : (strB t == (⟨#[46]⟩ : ByteArray)) = false := by have h1 := strB_beq t [46]; rw [decide_eq_false h46] at h1; exact h1
  have q4 : (t == [46]) = false := beq_eq_false_iff_ne.2 h46
  obtain ⟨n, hn⟩ : ∃ n, t.length = n := ⟨_, rfl⟩
  have hn0 : n ≠ 0 := fun e => h0 (List.eq_nil_of_length_eq_zero (by omega))
  have hsz : (strB t).size = n := by rw [strB_sz, hn]
  obtain ⟨m, hm⟩ : ∃ m, n = m + 1 := ⟨n - 1, by omega⟩
  obtain ⟨y, hy⟩ : ∃ y, t[m]? = some y := ⟨_, List.getElem?_eq_getElem (by omega)⟩
  have hlast : t.getLast? = some y := by rw [List.getLast?_eq_getElem?, hn, hm]; exact hy
  have IX : ∀ w, (Instr.index 9 (.string (strB t)) (.int .i64 (m : Int))).run Tryd.prog w = .ok (.int .u8 (y.toNat : Int)) w := fun w => run_chr hy
  obtain ⟨ci, hci⟩ : ∃ z : Int, (y.toNat : Int) = z := ⟨_, rfl⟩
  rw [hci] at IX
  have CI := Lib.hid hci
  have V : Hid (wrap64 ((n : Int) - 1) = (m : Int) ∧ IntKind.i64.wrap ((n : Int) - 1) = (m : Int)) := Lib.hid ⟨(w64_of (by omega) (by omega)).trans (by omega), (i64_of (by omega) (by omega)).trans (by omega)⟩
  have HN := Lib.hid hn
  have HM := Lib.hid hm
  have H0 := Lib.hid h0
  have H46 := Lib.hid h46
  have hnm : n ≤ 100000 := by omega
  clear hy hci hn hm hn0 h0 h46
  by_cases hl : y = 46
  · have t1 : (ci == 46) = true := by rw [← CI.out, hl]; rfl
    obtain ⟨u, hu⟩ : ∃ u, t.take m = u := ⟨_, rfl⟩
    have HD : ∀ w, (Instr.slice 9 (.string (strB t)) none (some (.int .i64 (m : Int))) none).run Tryd.prog w = .ok (.string (strB u)) w := fun w => by rw [← hu]; exact run_head rfl (by rw [HN.out, HM.out]; omega)
    have EOF : Hid (Lab.of t = Lab.join (Lab.parts u)) := Lib.hid (Lab.of_some H0.out H46.out (by
      unfold Lab.trim
      rw [hlast, hl, if_pos rfl, List.dropLast_eq_take, HN.out, HM.out]
      exact hu))
    obtain ⟨p, hp⟩ : ∃ p, u.length = p := ⟨_, rfl⟩
    have hpm : p ≤ 100000 := by rw [← hp, ← hu, List.length_take]; have := HN.out; omega
    have HP := Lib.hid hp
    clear hl hlast hu hp
    obtain ⟨v1, v2⟩ := V.out
    go_enter Tryd.func10, Tryd.ntmps10
    have own0 := World.ownsRow_lit (base := w.heap.size) (e := 9) (size := 1) w #[.string ⟨#[]⟩] 1 (Nat.le_refl _) (by decide) rfl
    have bl0 := (Below.refl w.heap.size w).alloc (Nat.le_refl _) (.cells #[.string ⟨#[]⟩] 9)
    have hus : (strB u).size = p := by rw [strB_sz, HP.out]
    go_wp2
    generalize w.alloc (.cells #[.string ⟨#[]⟩] 9) = w1 at *
    go_loopw [4, 5] (fun v i wr => ∃ (k n' : Nat) (A : Option Addr) (c : Nat) (o : List (List UInt8)) (z : List UInt8), k ≤ p ∧ 1 ≤ n' ∧ n' ≤ k + 1 ∧ i = .int .i64 (k : Int) ∧ v = .slice A n' c ∧ Hid ((u.take k).foldl Lab.step [[]] = o ++ [z]) ∧ Hid (n' = o.length + 1) ∧ Hid (z.length ≤ k) ∧ Hid (∀ x ∈ o, x.length ≤ 100000) ∧ wr.ownsRow w.heap.size 9 1 (.slice A n' c) n' (Tt (o ++ [z])) ∧ Below w.heap.size w wr) (fun _ i _ => p - (intOf i).toNat)
    case atStart => exact ⟨0, 1, _, _, [], [], by omega, by omega, by omega, rfl, rfl, Lib.hid rfl, Lib.hid rfl, Lib.hid (by simp), Lib.hid (by simp), own0, bl0⟩
    case round =>
      clear own0 bl0
      obtain ⟨k, n', A, c, o, z, hk, hn1, hn2, rfl, rfl, HF, HO, HZ, HS, own, bl⟩ := hrel
      have hk0 : (0 : Int) ≤ (k : Int) := by omega
      have bsz := bl.size
      by_cases hlt : k < p
      · obtain ⟨y, hy⟩ : ∃ y, u[k]? = some y := ⟨_, List.getElem?_eq_getElem (by rw [HP.out]; exact hlt)⟩
        have IXA : ∀ w, (Instr.index 9 (.string (strB u)) (.int .i64 (k : Int))).run Tryd.prog w = .ok (.int .u8 (y.toNat : Int)) w := fun w => run_chr hy
        obtain ⟨ci, hci⟩ : ∃ z : Int, (y.toNat : Int) = z := ⟨_, rfl⟩
        rw [hci] at IXA
        have HY := Lib.hid hy
        have CI := Lib.hid hci
        have HST : Hid ((u.take (k + 1)).foldl Lab.step [[]] = Lab.step (o ++ [z]) y) := Lib.hid (by rw [take_more hy, List.foldl_append, HF.out]; rfl)
        clear hy hci
        by_cases h46 : y = 46
        · have t1 : (ci == 46) = true := by rw [← CI.out, h46]; rfl
          have HST2 : Hid ((u.take (k + 1)).foldl Lab.step [[]] = (o ++ [z]) ++ [[]]) := Lib.hid (by rw [HST.out, Lab.step_snoc, if_pos h46])
          have HS2 : Hid (∀ x ∈ o ++ [z], x.length ≤ 100000) := Lib.hid (fun x hx => by
            rcases List.mem_append.1 hx with hx | hx
            · exact HS.out x hx
            · obtain rfl := List.mem_singleton.1 hx; have := HZ.out; omega)
          have HO2 : Hid (n' + 1 = (o ++ [z]).length + 1) := Lib.hid (by rw [HO.out]; simp)
          have own1 := own.alloc (.cells #[.string ⟨#[]⟩] 9)
          have R1 : Rd (wr.alloc (.cells #[.string ⟨#[]⟩] 9)) (wr.heap.size + 1) 1 (some ⟨wr.heap.size, 0, none⟩) 1 (Tt [[]]) := Rd.one wr (.string ⟨#[]⟩) 9
          have bl1 := bl.alloc bsz (.cells #[.string ⟨#[]⟩] 9)
          have hsz1 : w.heap.size ≤ (wr.alloc (.cells #[.string ⟨#[]⟩] 9)).heap.size := bl1.size
          clear h46
          go_wp2_with (at_builtin; refine app_law strT rfl (.tmp 34) (.tmp 35) rfl w.heap.size rfl own1 rfl R1 (Tt_one [[]]) (by omega) (by omega) hsz1 ?_; rintro A2 c2 w2 ⟨own2, hg2, _, _⟩)
          go_roundw
          case rel => exact ⟨k + 1, n' + 1, A2, c2, o ++ [z], [], by omega, by omega, by omega, by go_num, rfl, HST2, HO2, Lib.hid (by simp), HS2, by rw [Tt_app (o ++ [z])]; exact own2, below_app bl1 own1 hg2 (Nat.le_refl _) hsz1⟩
          case measure => simp [intOf]; omega
        · have t1 : (ci == 46) = false := by
            rw [← CI.out, beq_eq_false_iff_ne]
            intro e
            exact h46 (UInt8.toNat_inj.1 (by have : y.toNat = 46 := by omega
                                             rw [this]; rfl))
          have HST2 : Hid ((u.take (k + 1)).foldl Lab.step [[]] = o ++ [z ++ [y]]) := Lib.hid (by rw [HST.out, Lab.step_snoc, if_neg h46])
          obtain ⟨g, cap, hv, hg1, hg2⟩ := own.form (by omega)
          obtain ⟨rfl, rfl⟩ : A = some ⟨g, 0, none⟩ ∧ c = cap := by simpa using hv
          have hom : o.length = n' - 1 := by have := HO.out; omega
          have c0 : wr.cell? ⟨g, n' - 1, none⟩ = some (.string (strB z)) := by
            rw [own.cellAt (n' - 1) (by omega), Tt_get, List.getElem?_append_right (by omega), hom, Nat.sub_self]
            rfl
          have f0 := own.frozenAt (n' - 1)
          have st := (own.stored (n' - 1) (.string (strB (z ++ [y])))).1
          have eset : (Tt (o ++ [z])).set (n' - 1) (.string (strB (z ++ [y]))) = Tt (o ++ [z ++ [y]]) := by
            rw [Tt_app, Tt_app, List.set_append_right _ _ (by rw [Tt_len]; omega), Tt_len, hom, Nat.sub_self]
            rfl
          rw [eset] at st
          obtain ⟨j, hj⟩ : ∃ j, n' - 1 = j := ⟨_, rfl⟩
          rw [hj] at c0 f0 st
          obtain ⟨kp, hkp⟩ : ∃ z : Int, (k : Int) + 1 = z := ⟨_, rfl⟩
          have U1 : Hid (wrap64 ((k : Int) + 1) = kp ∧ IntKind.i64.wrap ((k : Int) + 1) = kp) := Lib.hid ⟨by rw [← hkp]; exact w64_of (by omega) (by omega), by rw [← hkp]; exact i64_of (by omega) (by omega)⟩
          have U2 : Hid (wrap64 ((n' : Int) - 1) = (j : Int) ∧ IntKind.i64.wrap ((n' : Int) - 1) = (j : Int)) := Lib.hid ⟨(w64_of (by omega) (by omega)).trans (by omega), (i64_of (by omega) (by omega)).trans (by omega)⟩
          have PT : ∀ w, (Instr.slice 9 (.string (strB u)) (some (.int .i64 (k : Int))) (some (.int .i64 kp)) none).run Tryd.prog w = .ok (.string (strB [y])) w := fun w => by
            have h1 := run_part (w := w) (l := u) (a := k) (b := k + 1) (i := (k : Int)) (j := kp) rfl (by omega) (by omega) (by rw [HP.out]; omega)
            rwa [show (u.drop k).take (k + 1 - k) = [y] by rw [show k + 1 - k = 1 by omega, List.take_one, List.head?_drop, HY.out]; rfl] at h1
          have A1 : ∀ w, (Op.stringOp .add (strB z) (strB [y])).run Tryd.prog w = .ok (.string (strB (z ++ [y]))) w := fun w => run_two (by have := HZ.out; simp; omega)
          obtain ⟨z2, hz2⟩ : ∃ z2, z ++ [y] = z2 := ⟨_, rfl⟩
          have HZ2 : Hid (z2.length ≤ k + 1) := Lib.hid (by rw [← hz2]; have := HZ.out; simp; omega)
          rw [hz2] at A1 st HST2
          have hj0 : (0 : Int) ≤ (j : Int) := by omega
          have hjn : (j : Int) < (n' : Int) := by omega
          have hjn2 : j < n' := by omega
          have b2 := (below_set (o := j) bl hg1 (.string (strB z2)))
          have HK : Hid (kp = ((k + 1 : Nat) : Int) ∧ k + 1 ≤ p ∧ n' ≤ k + 1 + 1) := Lib.hid ⟨by omega, by omega, by omega⟩
          clear h46 hv hom eset hj hkp hz2 own
          obtain ⟨u1, u2⟩ := U1.out
          obtain ⟨u3, u4⟩ := U2.out
          go_wp2_with fail
          go_region
          all_goals
            go_wp2
            go_roundw
            case rel => exact ⟨k + 1, n', _, _, o, z2, HK.out.2.1, hn1, HK.out.2.2, by rw [HK.out.1], rfl, HST2, HO, HZ2, HS, st, b2.drew⟩
            case measure => rw [HK.out.1]; have h1 := HK.out.2.1; clear u1 u2 u3 u4 v1 v2; simp only [intOf]; omega
      · have hkk : ¬ (k : Int) < (p : Int) := by omega
        have HPT : Hid (Lab.parts u = o ++ [z]) := Lib.hid (by
          unfold Lab.parts
          have h1 := HF.out
          rwa [List.take_of_length_le (by have := HP.out; omega)] at h1)
        have R := Rd.of_own own
        obtain ⟨⟨jt, je⟩, hjn⟩ : ∃ z, Lab.join (Lab.parts u) = z := ⟨_, rfl⟩
        have EJ : Hid (Lab.of t = (jt, je)) := Lib.hid (by rw [EOF.out, hjn])
        rw [HPT.out] at hjn
        have JN := Lib.hid hjn
        have hds : Hid (∀ x ∈ o ++ [z], x.length ≤ 1000000) := Lib.hid (fun x hx => by
          rcases List.mem_append.1 hx with hx | hx
          · have := HS.out x hx; omega
          · obtain rfl := List.mem_singleton.1 hx; have := HZ.out; omega)
        clear hjn own
        go_wp2_with fail
        refine (rjoinl_at JN.out A n' c _ wr R (Nat.le_refl _) (by omega) hds.out).mono ?_
        rintro e w3 ⟨rfl, h1⟩
        replace bl := bl.trans (h1.mono bl.size)
        clear h1
        go_wp2
        go_ret2
        exact ⟨by rw [EJ.out]; rfl, bl⟩
  · have t1 : (ci == 46) = false := by
      rw [← CI.out, beq_eq_false_iff_ne]
      intro e
      exact hl (UInt8.toNat_inj.1 (by have : y.toNat = 46 := by omega
                                      rw [this]; rfl))
    obtain ⟨u, rfl⟩ : ∃ u, u = t := ⟨t, rfl⟩
    have EOF : Hid (Lab.of u = Lab.join (Lab.parts u)) := Lib.hid (Lab.of_some H0.out H46.out (by
      unfold Lab.trim
      rw [hlast, if_neg (by intro h; injection h with h; exact hl h)]))
    obtain ⟨p, rfl⟩ : ∃ p, p = n := ⟨n, rfl⟩
    have HP := HN
    have hpm := hnm
    clear hl hlast H0 H46
    obtain ⟨v1, v2⟩ := V.out
    go_enter Tryd.func10, Tryd.ntmps10
    have own0 := World.ownsRow_lit (base := w.heap.size) (e := 9) (size := 1) w #[.string ⟨#[]⟩] 1 (Nat.le_refl _) (by decide) rfl
    have bl0 := (Below.refl w.heap.size w).alloc (Nat.le_refl _) (.cells #[.string ⟨#[]⟩] 9)
    go_wp2
    generalize w.alloc (.cells #[.string ⟨#[]⟩] 9) = w1 at *
    go_loopw [4, 5] (fun v i wr => ∃ (k n' : Nat) (A : Option Addr) (c : Nat) (o : List (List UInt8)) (z : List UInt8), k ≤ p ∧ 1 ≤ n' ∧ n' ≤ k + 1 ∧ i = .int .i64 (k : Int) ∧ v = .slice A n' c ∧ Hid ((u.take k).foldl Lab.step [[]] = o ++ [z]) ∧ Hid (n' = o.length + 1) ∧ Hid (z.length ≤ k) ∧ Hid (∀ x ∈ o, x.length ≤ 100000) ∧ wr.ownsRow w.heap.size 9 1 (.slice A n' c) n' (Tt (o ++ [z])) ∧ Below w.heap.size w wr) (fun _ i _ => p - (intOf i).toNat)
    case atStart => exact ⟨0, 1, _, _, [], [], by omega, by omega, by omega, rfl, rfl, Lib.hid rfl, Lib.hid rfl, Lib.hid (by simp), Lib.hid (by simp), own0, bl0⟩
    case round =>
      clear own0 bl0
      obtain ⟨k, n', A, c, o, z, hk, hn1, hn2, rfl, rfl, HF, HO, HZ, HS, own, bl⟩ := hrel
      have hk0 : (0 : Int) ≤ (k : Int) := by omega
      have bsz := bl.size
      by_cases hlt : k < p
      · obtain ⟨y, hy⟩ : ∃ y, u[k]? = some y := ⟨_, List.getElem?_eq_getElem (by rw [HP.out]; exact hlt)⟩
        have IXA : ∀ w, (Instr.index 9 (.string (strB u)) (.int .i64 (k : Int))).run Tryd.prog w = .ok (.int .u8 (y.toNat : Int)) w := fun w => run_chr hy
        obtain ⟨ci, hci⟩ : ∃ z : Int, (y.toNat : Int) = z := ⟨_, rfl⟩
        rw [hci] at IXA
        have HY := Lib.hid hy
        have CI := Lib.hid hci
        have HST : Hid ((u.take (k + 1)).foldl Lab.step [[]] = Lab.step (o ++ [z]) y) := Lib.hid (by rw [take_more hy, List.foldl_append, HF.out]; rfl)
        clear hy hci
        by_cases h46 : y = 46
        · have t1 : (ci == 46) = true := by rw [← CI.out, h46]; rfl
          have HST2 : Hid ((u.take (k + 1)).foldl Lab.step [[]] = (o ++ [z]) ++ [[]]) := Lib.hid (by rw [HST.out, Lab.step_snoc, if_pos h46])
          have HS2 : Hid (∀ x ∈ o ++ [z], x.length ≤ 100000) := Lib.hid (fun x hx => by
            rcases List.mem_append.1 hx with hx | hx
            · exact HS.out x hx
            · obtain rfl := List.mem_singleton.1 hx; have := HZ.out; omega)
          have HO2 : Hid (n' + 1 = (o ++ [z]).length + 1) := Lib.hid (by rw [HO.out]; simp)
          have own1 := own.alloc (.cells #[.string ⟨#[]⟩] 9)
          have R1 : Rd (wr.alloc (.cells #[.string ⟨#[]⟩] 9)) (wr.heap.size + 1) 1 (some ⟨wr.heap.size, 0, none⟩) 1 (Tt [[]]) := Rd.one wr (.string ⟨#[]⟩) 9
          have bl1 := bl.alloc bsz (.cells #[.string ⟨#[]⟩] 9)
          have hsz1 : w.heap.size ≤ (wr.alloc (.cells #[.string ⟨#[]⟩] 9)).heap.size := bl1.size
          clear h46
          go_wp2_with (at_builtin; refine app_law strT rfl (.tmp 34) (.tmp 35) rfl w.heap.size rfl own1 rfl R1 (Tt_one [[]]) (by omega) (by omega) hsz1 ?_; rintro A2 c2 w2 ⟨own2, hg2, _, _⟩)
          go_roundw
          case rel => exact ⟨k + 1, n' + 1, A2, c2, o ++ [z], [], by omega, by omega, by omega, by go_num, rfl, HST2, HO2, Lib.hid (by simp), HS2, by rw [Tt_app (o ++ [z])]; exact own2, below_app bl1 own1 hg2 (Nat.le_refl _) hsz1⟩
          case measure => simp [intOf]; omega
        · have t1 : (ci == 46) = false := by
            rw [← CI.out, beq_eq_false_iff_ne]
            intro e
            exact h46 (UInt8.toNat_inj.1 (by have : y.toNat = 46 := by omega
                                             rw [this]; rfl))
          have HST2 : Hid ((u.take (k + 1)).foldl Lab.step [[]] = o ++ [z ++ [y]]) := Lib.hid (by rw [HST.out, Lab.step_snoc, if_neg h46])
          obtain ⟨g, cap, hv, hg1, hg2⟩ := own.form (by omega)
          obtain ⟨rfl, rfl⟩ : A = some ⟨g, 0, none⟩ ∧ c = cap := by simpa using hv
          have hom : o.length = n' - 1 := by have := HO.out; omega
          have c0 : wr.cell? ⟨g, n' - 1, none⟩ = some (.string (strB z)) := by
            rw [own.cellAt (n' - 1) (by omega), Tt_get, List.getElem?_append_right (by omega), hom, Nat.sub_self]
            rfl
          have f0 := own.frozenAt (n' - 1)
          have st := (own.stored (n' - 1) (.string (strB (z ++ [y])))).1
          have eset : (Tt (o ++ [z])).set (n' - 1) (.string (strB (z ++ [y]))) = Tt (o ++ [z ++ [y]]) := by
            rw [Tt_app, Tt_app, List.set_append_right _ _ (by rw [Tt_len]; omega), Tt_len, hom, Nat.sub_self]
            rfl
          rw [eset] at st
          obtain ⟨j, hj⟩ : ∃ j, n' - 1 = j := ⟨_, rfl⟩
          rw [hj] at c0 f0 st
          obtain ⟨kp, hkp⟩ : ∃ z : Int, (k : Int) + 1 = z := ⟨_, rfl⟩
          have U1 : Hid (wrap64 ((k : Int) + 1) = kp ∧ IntKind.i64.wrap ((k : Int) + 1) = kp) := Lib.hid ⟨by rw [← hkp]; exact w64_of (by omega) (by omega), by rw [← hkp]; exact i64_of (by omega) (by omega)⟩
          have U2 : Hid (wrap64 ((n' : Int) - 1) = (j : Int) ∧ IntKind.i64.wrap ((n' : Int) - 1) = (j : Int)) := Lib.hid ⟨(w64_of (by omega) (by omega)).trans (by omega), (i64_of (by omega) (by omega)).trans (by omega)⟩
          have PT : ∀ w, (Instr.slice 9 (.string (strB u)) (some (.int .i64 (k : Int))) (some (.int .i64 kp)) none).run Tryd.prog w = .ok (.string (strB [y])) w := fun w => by
            have h1 := run_part (w := w) (l := u) (a := k) (b := k + 1) (i := (k : Int)) (j := kp) rfl (by omega) (by omega) (by rw [HP.out]; omega)
            rwa [show (u.drop k).take (k + 1 - k) = [y] by rw [show k + 1 - k = 1 by omega, List.take_one, List.head?_drop, HY.out]; rfl] at h1
          have A1 : ∀ w, (Op.stringOp .add (strB z) (strB [y])).run Tryd.prog w = .ok (.string (strB (z ++ [y]))) w := fun w => run_two (by have := HZ.out; simp; omega)
          obtain ⟨z2, hz2⟩ : ∃ z2, z ++ [y] = z2 := ⟨_, rfl⟩
          have HZ2 : Hid (z2.length ≤ k + 1) := Lib.hid (by rw [← hz2]; have := HZ.out; simp; omega)
          rw [hz2] at A1 st HST2
          have hj0 : (0 : Int) ≤ (j : Int) := by omega
          have hjn : (j : Int) < (n' : Int) := by omega
          have hjn2 : j < n' := by omega
          have b2 := (below_set (o := j) bl hg1 (.string (strB z2)))
          have HK : Hid (kp = ((k + 1 : Nat) : Int) ∧ k + 1 ≤ p ∧ n' ≤ k + 1 + 1) := Lib.hid ⟨by omega, by omega, by omega⟩
          clear h46 hv hom eset hj hkp hz2 own
          obtain ⟨u1, u2⟩ := U1.out
          obtain ⟨u3, u4⟩ := U2.out
          go_wp2_with fail
          go_region
          all_goals
            go_wp2
            go_roundw
            case rel => exact ⟨k + 1, n', _, _, o, z2, HK.out.2.1, hn1, HK.out.2.2, by rw [HK.out.1], rfl, HST2, HO, HZ2, HS, st, b2.drew⟩
            case measure => rw [HK.out.1]; have h1 := HK.out.2.1; clear u1 u2 u3 u4 v1 v2; simp only [intOf]; omega
      · have hkk : ¬ (k : Int) < (p : Int) := by omega
        have HPT : Hid (Lab.parts u = o ++ [z]) := Lib.hid (by
          unfold Lab.parts
          have h1 := HF.out
          rwa [List.take_of_length_le (by have := HP.out; omega)] at h1)
        have R := Rd.of_own own
        obtain ⟨⟨jt, je⟩, hjn⟩ : ∃ z, Lab.join (Lab.parts u) = z := ⟨_, rfl⟩
        have EJ : Hid (Lab.of u = (jt, je)) := Lib.hid (by rw [EOF.out, hjn])
        rw [HPT.out] at hjn
        have JN := Lib.hid hjn
        have hds : Hid (∀ x ∈ o ++ [z], x.length ≤ 1000000) := Lib.hid (fun x hx => by
          rcases List.mem_append.1 hx with hx | hx
          · have := HS.out x hx; omega
          · obtain rfl := List.mem_singleton.1 hx; have := HZ.out; omega)
        clear hjn own
        go_wp2_with fail
        refine (rjoinl_at JN.out A n' c _ wr R (Nat.le_refl _) (by omega) hds.out).mono ?_
        rintro e w3 ⟨rfl, h1⟩
        replace bl := bl.trans (h1.mono bl.size)
        clear h1
        go_wp2
        go_ret2
        exact ⟨by rw [EJ.out]; rfl, bl⟩
end Go.Proofs.YtillnjhmdgmgeaaDoor
