/- The document's labels: a name's text. -/
import Derived.Test.YtillnjhmdgmgeaaDoorBRef4
namespace Go.Proofs.YtillnjhmdgmgeaaDoor
set_option linter.unusedVariables false
set_option linter.unusedSimpArgs false
open Go.RowKit
namespace Lab
theorem text_none {s : List UInt8} (h : cut s = none) : text s = ([], 1) := by unfold text; rw [h]
theorem text_some {s : List UInt8} {l : List (List UInt8)} (h : cut s = some l) : text s = if bad l = true then ([], 3) else (shown l, 0) := by unfold text; rw [h]
theorem bad_at {l : List (List UInt8)} {k : Nat} {x : List UInt8} (h : l[k]? = some x) (hx : 46 ∈ x) : bad l = true := List.any_eq_true.2 ⟨x, List.mem_of_getElem? h, by simpa using hx⟩
theorem bad_step {l : List (List UInt8)} {k : Nat} {x : List UInt8} (h : l[k]? = some x) (hb : ¬ bad (l.take k) = true) (hx : ¬ 46 ∈ x) : ¬ bad (l.take (k + 1)) = true := by
  rw [take_more h]
  unfold bad at hb ⊢
  rw [List.any_append]
  simp at hb ⊢
  exact ⟨hb, hx⟩
theorem dots_step {l : List (List UInt8)} {k : Nat} {x : List UInt8} (h : l[k]? = some x) : dots (l.take (k + 1)) = dots (l.take k) ++ x ++ [46] := by
  rw [take_more h, dots_app]
  show dots (l.take k) ++ (dot x ++ []) = _
  simp [dot]
theorem dots_take {l : List (List UInt8)} (h : ok l) (k : Nat) : (dots (l.take k)).length ≤ 254 := by
  rw [dots_len]
  have h1 := wires_take l k
  have h2 := h.2
  rw [names_len] at h2
  omega
theorem shown_no {l : List (List UInt8)} (h : dots l = []) : shown l = [46] := by
  unfold shown
  split
  · rfl
  · rename_i hl
    cases l with
    | nil => exact absurd rfl hl
    | cons x r => exact absurd h (by show dot x ++ dots r ≠ []; simp [dot])
theorem shown_yes {l : List (List UInt8)} (h : dots l ≠ []) : shown l = dots l := by
  unfold shown
  split
  · rename_i hl; subst hl; exact absurd rfl h
  · rfl
end Lab
set_option maxHeartbeats 4000000 in
set_option maxRecDepth 20000 in
theorem rltext_any (s : List UInt8) (hs : s.length ≤ 100000) (w : World) : Calls Tryd.prog 12 #[.string (strB s)] w (TxE (Lab.text s).1 (Lab.text s).2 w) := by
  obtain ⟨ca, hca⟩ : ∃ z, Lab.cut s = z := ⟨_, rfl⟩
  have HCA := Lib.hid hca
  clear hca
  go_enter Tryd.func12, Tryd.ntmps12
  go_wp2_with fail
  refine (rcut_at HCA.out hs w).mono ?_
  rintro e w1 ⟨⟨A, n, c, rfl, hn1, R, hc1, hd1⟩, b0⟩
  have HM1 := Lib.hid hn1
  clear hn1
  cases ca with
  | none =>
    have CN := Lib.hid (Lab.text_none HCA.out)
    go_wp2
    go_ret2
    exact ⟨by rw [CN.out]; rfl, b0⟩
  | some l =>
    have OL := Lib.hid (Lab.cut_some HCA.out).1
    have CT := Lib.hid (Lab.text_some HCA.out)
    simp only [Option.getD_some, Option.isSome_some] at R ⊢
    have HL : Hid (n = l.length) := HM1
    have hn3 : n ≤ 254 := by have := Lab.ok_few OL.out; have := HL.out; omega
    clear HM1
    go_wp2
    go_loop [6, 7] (fun o i => ∃ k : Nat, k ≤ n ∧ i = .int .i64 (k : Int) ∧ o = .string (strB (Lab.dots (l.take k))) ∧ Hid (¬ Lab.bad (l.take k) = true)) (fun _ i => n - (intOf i).toNat)
    case atStart => exact ⟨0, by omega, rfl, rfl, Lib.hid (by simp [Lab.bad])⟩
    case round =>
      obtain ⟨k, hk, rfl, rfl, HB⟩ := hrel
      have hk0 : (0 : Int) ≤ (k : Int) := by omega
      have hdl := Lab.dots_take OL.out k
      obtain ⟨t, ht⟩ : ∃ t, Lab.dots (l.take k) = t := ⟨_, rfl⟩
      rw [ht] at hdl ⊢
      have HT := Lib.hid ht
      clear ht
      by_cases hlt : k < n
      · obtain ⟨bk, ok', x, rfl, hbk, hx, hc⟩ := R.atT hlt
        have HX := Lib.hid hx
        have hx63 := (OL.out.1 x (List.mem_of_getElem? hx)).2
        obtain ⟨m, hm⟩ : ∃ m, x.length = m := ⟨_, rfl⟩
        have hxs : (strB x).size = m := by rw [strB_sz, hm]
        have HM := Lib.hid hm
        have hm63 : m ≤ 63 := by omega
        clear hx hm hx63
        go_wp2
        go_loop [8] (fun j => ∃ q : Nat, q ≤ m ∧ j = .int .i64 (q : Int) ∧ Hid (¬ 46 ∈ x.take q)) (fun j => m - (intOf j).toNat)
        case atStart => exact ⟨0, by omega, rfl, Lib.hid (by simp)⟩
        case round =>
          obtain ⟨q, hq, rfl, HQ⟩ := hrel
          have hq0 : (0 : Int) ≤ (q : Int) := by omega
          by_cases hqm : q < m
          · obtain ⟨y, hy⟩ : ∃ y, x[q]? = some y := ⟨_, List.getElem?_eq_getElem (by rw [HM.out]; exact hqm)⟩
            have IX : ∀ w, (Instr.index 9 (.string (strB x)) (.int .i64 (q : Int))).run Tryd.prog w = .ok (.int .u8 (y.toNat : Int)) w := fun w => run_chr hy
            obtain ⟨ci, hci⟩ : ∃ z : Int, (y.toNat : Int) = z := ⟨_, rfl⟩
            rw [hci] at IX
            have HY := Lib.hid hy
            have CI := Lib.hid hci
            clear hy hci
            by_cases h46 : y = 46
            · have t1 : (ci == 46) = true := by rw [← CI.out, h46]; rfl
              have hbad := Lab.bad_at HX.out (by rw [← h46]; exact List.mem_of_getElem? HY.out)
              have CN : Hid (Lab.text s = ([], 3)) := Lib.hid (by rw [CT.out, if_pos hbad])
              clear h46 hbad
              go_wp2
              go_ret2
              exact ⟨by rw [CN.out]; rfl, b0⟩
            · have t1 : (ci == 46) = false := by
                rw [← CI.out, beq_eq_false_iff_ne]
                intro e
                exact h46 (UInt8.toNat_inj.1 (by have : y.toNat = 46 := by omega
                                                 rw [this]; rfl))
              have HQ2 : Hid (¬ 46 ∈ x.take (q + 1)) := Lib.hid (by
                rw [take_more HY.out]
                intro hm
                rcases List.mem_append.1 hm with hm | hm
                · exact HQ.out hm
                · exact h46 (List.mem_singleton.1 hm).symm)
              clear h46
              go_wp2
              go_round
              case rel => exact ⟨q + 1, by omega, by go_num, HQ2⟩
              case measure => simp [intOf]; omega
          · have hqq : ¬ (q : Int) < (m : Int) := by omega
            have HN2 : Hid (¬ 46 ∈ x) := Lib.hid (by have h1 := HQ.out; rwa [List.take_of_length_le (by have := HM.out; omega)] at h1)
            have HB2 := Lib.hid (Lab.bad_step HX.out HB.out HN2.out)
            have hst := Lab.dots_step HX.out
            rw [HT.out] at hst
            obtain ⟨t1, ht1⟩ : ∃ t1, t ++ x = t1 := ⟨_, rfl⟩
            obtain ⟨t2, ht2⟩ : ∃ t2, t1 ++ [46] = t2 := ⟨_, rfl⟩
            rw [ht1, ht2] at hst
            have HST := Lib.hid hst
            have l1 : t1.length ≤ 400 := by rw [← ht1, List.length_append]; have := HM.out; omega
            have A1 : ∀ w, (Op.stringOp .add (strB t) (strB x)).run Tryd.prog w = .ok (.string (strB t1)) w := fun w => by rw [← ht1]; exact run_two (by have := HM.out; omega)
            have A2 : ∀ w, (Op.stringOp .add (strB t1) ⟨#[46]⟩).run Tryd.prog w = .ok (.string (strB t2)) w := fun w => by rw [← ht2]; exact run_two (b := [46]) (by simp; omega)
            clear hst ht1 ht2 l1 HQ HN2
            go_wp2
            go_round
            case rel => exact ⟨k + 1, by omega, by go_num, by rw [HST.out], HB2⟩
            case measure => simp [intOf]; omega
      · have hkk : ¬ (k : Int) < (n : Int) := by omega
        have e1 : l.take k = l := List.take_of_length_le (by have := HL.out; omega)
        have HTN : Hid (Lab.dots l = t) := Lib.hid (by rw [← HT.out, e1])
        have HBN : Hid (¬ Lab.bad l = true) := Lib.hid (by have h1 := HB.out; rwa [e1] at h1)
        clear e1
        by_cases h0 : t = []
        · have CN : Hid (Lab.text s = ([46], 0)) := Lib.hid (by rw [CT.out, if_neg HBN.out, Lab.shown_no (by rw [HTN.out]; exact h0)])
          have q1 : (strB t == (⟨#[]⟩ : ByteArray)) = true := by rw [h0]; rfl
          have q2 : t.isEmpty = true := by rw [h0]; rfl
          clear h0
          go_wp2
          go_ret2
          exact ⟨by rw [CN.out]; rfl, b0⟩
        · have CN : Hid (Lab.text s = (t, 0)) := Lib.hid (by rw [CT.out, if_neg HBN.out, Lab.shown_yes (by rw [HTN.out]; exact h0), HTN.out])
          have q1 : (strB t == (⟨#[]⟩ : ByteArray)) = false := by have h1 := strB_beq t []; rw [decide_eq_false h0] at h1; exact h1
          have q2 : t.isEmpty = false := by cases t with | nil => exact absurd rfl h0 | cons a b => rfl
          clear h0
          go_wp2
          go_ret2
          exact ⟨by rw [CN.out]; rfl, b0⟩
end Go.Proofs.YtillnjhmdgmgeaaDoor
