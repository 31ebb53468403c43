/- Package label: the library's iterators: over a slice, and over the parts of a text. -/
import Derived.Test.YtillnjhmdgmgeaaDoorBSeq
import Derived.Test.YtillnjhmdgmgeaaDoorBShelf
namespace Go.Proofs.YtillnjhmdgmgeaaDoor
set_option linter.unusedVariables false
set_option linter.unusedSimpArgs false
open Go.RowKit Go.Shelf
attribute [local go_sem] Oper.semAt_some
namespace Lab
theorem idx_no : ∀ {t : List UInt8}, ¬ 46 ∈ t → Lib.indexByte t 46 = -1
  | [], _ => rfl
  | b :: l, h => by
    have hb : ¬ b = 46 := fun e => h (by simp [e])
    have hl := idx_no (t := l) (fun hm => h (by simp [hm]))
    unfold Lib.indexByte
    rw [if_neg (by simpa using hb), hl]
    rfl
theorem idx_yes : ∀ {t : List UInt8}, 46 ∈ t → ∃ (k : Nat) (a b : List UInt8), Lib.indexByte t 46 = (k : Int) ∧ t = a ++ 46 :: b ∧ a.length = k ∧ ¬ 46 ∈ a
  | [], h => by cases h
  | c :: l, h => by
    by_cases hc : c = 46
    · subst hc
      exact ⟨0, [], l, rfl, rfl, rfl, by simp⟩
    · have hm : 46 ∈ l := by
        rcases List.mem_cons.1 h with h1 | h1
        · exact absurd h1.symm hc
        · exact h1
      obtain ⟨k, a, b, h1, h2, h3, h4⟩ := idx_yes hm
      refine ⟨k + 1, c :: a, b, ?_, by rw [h2]; rfl, by simp [h3], ?_⟩
      · unfold Lib.indexByte
        rw [if_neg (by simpa using hc), h1, if_neg (by simp)]
        omega
      · intro h5
        rcases List.mem_cons.1 h5 with h6 | h6
        · exact hc h6.symm
        · exact h4 h6
theorem parts_one {t : List UInt8} (h : ¬ 46 ∈ t) : parts t = [t] := by
  have := parts_dots (l := []) (s := t) (by simp) h
  simpa [dots] using this
theorem fold_ahead : ∀ (b : List UInt8) (acc : List (List UInt8)) (p : List UInt8), b.foldl step (acc ++ [p]) = acc ++ b.foldl step [p]
  | [], acc, p => rfl
  | c :: b, acc, p => by
    rw [List.foldl_cons, List.foldl_cons]
    have h1 := step_snoc acc p c
    have h2 := step_snoc [] p c
    rw [List.nil_append] at h2
    rw [h1, h2]
    by_cases hc : c = 46
    · rw [if_pos hc, if_pos hc, fold_ahead b (acc ++ [p]) [], fold_ahead b [p] [], List.append_assoc]
    · rw [if_neg hc, if_neg hc, List.nil_append, fold_ahead b acc (p ++ [c])]
theorem parts_cut {a b : List UInt8} (h : ¬ 46 ∈ a) : parts (a ++ 46 :: b) = a :: parts b := by
  unfold parts
  rw [List.foldl_append, List.foldl_cons]
  have h1 := fold_plain a [] [] h
  simp only [List.nil_append] at h1
  rw [h1]
  have h2 : step [a] 46 = [a] ++ [[]] := by
    have := step_snoc [] a 46
    rw [if_pos rfl] at this
    simpa using this
  rw [h2, fold_ahead]
  rfl
theorem parts_ne (t : List UInt8) : 0 < (parts t).length := by
  by_cases h : 46 ∈ t
  · obtain ⟨k, a, b, _, rfl, _, ha⟩ := idx_yes h
    rw [parts_cut ha]; simp
  · rw [parts_one h]; simp
end Lab
/-- what a round is handed -/
abbrev encsB (x : List UInt8) : Array Value := #[.string (strB x)]
theorem Boxed.keep {W W' : World} {m b : Nat} {t : TypeId} {v : Value} (h : Boxed W b t v) (hk : Below m W W') (hb : b < m) : Boxed W' b t v := (hk.block b hb).trans h
set_option maxRecDepth 100000 in
set_option maxHeartbeats 2000000 in
theorem blvalues1_in (n : Nat) (hn : 1 ≤ n) (lp Bs m : Nat) (A : Option Addr) (len cap : Nat) (l : List (List UInt8)) (hlen : len ≤ 1000000) (J Jx : List (List UInt8) → World → Prop)
    (hY : ∀ pre x W, J pre W → pre ++ [x] <+: l → YieldAt Fence.wide (n - 1) Tryd.prog lp (encsB x) W fun e W' =>
      (e = .returned (.bool true) ∧ J (pre ++ [x]) W' ∧ Below m W W') ∨ (e = .returned (.bool false) ∧ Jx (pre ++ [x]) W'))
    (W : World) (hBs : W.cell? ⟨Bs, 0, none⟩ = some (.slice A len cap)) (hr : Rd W m 1 A len (Tt l)) (h0 : J [] W) :
    CallsIn Fence.wide n Tryd.prog 42 #[.func (.yield lp) #[] #[], .pointer (some ⟨Bs, 0, none⟩)] W fun e W' => (∃ v, e = .returned v) ∧ (J l W' ∨ ∃ pre, pre <+: l ∧ Jx pre W') := by
  have hl : l.length = len := by have := hr.len1; rwa [Tt_len] at this
  have HL := Lib.hid hl
  clear hl
  refine callsIn_of_wp Tryd.func42 rfl trivial ?_ rfl
  simp only [Tryd.ntmps42, List.size_toArray, List.length_cons, List.length_nil, Nat.reduceAdd, Nat.reduceSub, Array.replicate_succ, Array.replicate_zero, List.push_toArray, List.append_toArray, List.nil_append, List.cons_append]
  gi_wp2
  gi_loopw [7] (fun i wr => ∃ k : Nat, k ≤ len ∧ i = .int .i64 k ∧ J (l.take k) wr ∧ Below m W wr)
    (fun i _ => len - (intOf i).toNat)
  case atStart => exact ⟨0, Nat.zero_le _, rfl, h0, Below.refl _ _⟩
  case round =>
    obtain ⟨k, hk, rfl, hJs, hnx⟩ := hrel
    by_cases hlt : k < len
    · obtain ⟨b, o, x, e1, hb, hx, hcx⟩ := (hr.below hnx).atT hlt
      have HX := Lib.hid hx
      obtain ⟨fn, tmps, assign, body, hy, hR⟩ := hY _ x wr hJs (by rw [← take_more HX.out]; exact List.take_prefix _ _)
      clear hx
      subst e1
      gi_wp2
      refine hR.mono ?_
      rintro e W3 (⟨rfl, hJ3, hk3⟩ | ⟨rfl, hJx3⟩)
      · gi_wp2
        go_roundw
        case rel => exact ⟨k + 1, by omega, by simp, by rw [take_more HX.out]; exact hJ3, hnx.trans hk3⟩
        case measure => simp [intOf]; omega
      · gi_wp2
        refine bodyPost_ret (results_none rfl _ _ _) rfl ?_
        exact ⟨⟨_, rfl⟩, .inr ⟨_, by rw [← take_more HX.out]; exact List.take_prefix _ _, hJx3⟩⟩
    · obtain rfl : k = len := by omega
      rw [List.take_of_length_le (by have := HL.out; omega)] at hJs
      gi_wp2
      go_end0
      exact ⟨⟨_, rfl⟩, .inl hJs⟩
theorem blvalues_in (n : Nat) (A : Option Addr) (len cap : Nat) (w : World) :
    CallsIn Fence.wide n Tryd.prog 34 #[.slice A len cap] w fun e w' => e = .returned (.func (.func 42) #[] #[.pointer (some ⟨w.heap.size, 0, none⟩)]) ∧ w' = w.alloc (.cells #[.slice A len cap] 28) := by
  refine callsIn_of_wp Tryd.func34 rfl trivial ?_ rfl
  simp only [Tryd.ntmps34, List.size_toArray, List.length_cons, List.length_nil, Nat.reduceAdd, Nat.reduceSub, Array.replicate_succ, Array.replicate_zero, List.push_toArray, List.append_toArray, List.nil_append, List.cons_append]
  gi_wp2
  go_ret
  exact ⟨rfl, rfl⟩
theorem blvalues_seq (n : Nat) (hn : 1 ≤ n) (Bs B m : Nat) (A : Option Addr) (len cap : Nat) (l : List (List UInt8)) (hlen : len ≤ 1000000) (w : World) (hBs : Bs < w.heap.size) (hm : m ≤ w.heap.size)
    (hc : w.cell? ⟨Bs, 0, none⟩ = some (.slice A len cap)) (hr : Rd w m 1 A len (Tt l)) :
    SeqC n Tryd.prog 42 #[.pointer (some ⟨Bs, 0, none⟩)] encsB B m l w := fun lp J Jx W hW _ _ hY h0 =>
  blvalues1_in n hn lp Bs m A len cap l hlen J Jx hY W ((hW.cell (p := ⟨Bs, 0, none⟩) hBs).trans hc) (hr.below (hW.mono hm)) h0
theorem blindex (t : List UInt8) (w : World) : Calls Tryd.prog 46 #[.string (strB t), .string ⟨#[46]⟩] w fun e w' => e = .returned (.int .i64 (Lib.indexByte t 46)) ∧ w' = w := strings_Index_one (strB t) 46 w
/-- how long the text is that a box holds -/
def leftS (b : Nat) (w : World) : Nat := match w.cell? ⟨b, 0, none⟩ with | some (.string s) => s.size | _ => 0
theorem leftS_box {b : Nat} {w : World} {t : TypeId} {s : List UInt8} (h : Boxed w b t (.string (strB s))) : leftS b w = s.length := by
  unfold leftS
  rw [h.cell]
  exact strB_sz s
set_option maxRecDepth 100000 in
set_option maxHeartbeats 2000000 in
theorem blsplit1_in (n : Nat) (hn : 1 ≤ n) (lp b B m : Nat) (hb : B ≤ b ∧ b + 2 < m) (s : List UInt8) (hs : s.length ≤ 1000000) (J Jx : List (List UInt8) → World → Prop)
    (hJc : ∀ p X b' u, J p X → B ≤ b' → b' < m → J p (X.setCell ⟨b', 0, none⟩ u))
    (hY : ∀ pre x W, J pre W → pre ++ [x] <+: Lab.parts s → YieldAt Fence.wide (n - 1) Tryd.prog lp (encsB x) W fun e W' =>
      (e = .returned (.bool true) ∧ J (pre ++ [x]) W' ∧ Below m W W') ∨ (e = .returned (.bool false) ∧ Jx (pre ++ [x]) W'))
    (W : World) (h1 : Boxed W b 9 (.string (strB s))) (h2 : Boxed W (b + 1) 9 (.string ⟨#[46]⟩)) (h3 : Boxed W (b + 1 + 1) 3 (.int .i64 0)) (h0 : J [] W) :
    CallsIn Fence.wide n Tryd.prog 44 #[.func (.yield lp) #[] #[], .pointer (some ⟨b + 1, 0, none⟩), .pointer (some ⟨b, 0, none⟩), .pointer (some ⟨b + 1 + 1, 0, none⟩)] W fun e W' => (∃ v, e = .returned v) ∧ (J (Lab.parts s) W' ∨ ∃ pre, pre <+: Lab.parts s ∧ Jx pre W') := by
  have c2 := h2.cell
  refine callsIn_of_wp Tryd.func44 rfl trivial ?_ rfl
  simp only [Tryd.ntmps44, List.size_toArray, List.length_cons, List.length_nil, Nat.reduceAdd, Nat.reduceSub, Array.replicate_succ, Array.replicate_zero, List.push_toArray, List.append_toArray, List.nil_append, List.cons_append]
  gi_wp2
  clear c2
  gi_loopw [7] (fun _ wr => ∃ (o : List (List UInt8)) (t : List UInt8), Hid (Lab.parts s = o ++ Lab.parts t) ∧ t.length ≤ 1000000 ∧ Boxed wr b 9 (.string (strB t)) ∧ Boxed wr (b + 1) 9 (.string ⟨#[46]⟩) ∧ Boxed wr (b + 1 + 1) 3 (.int .i64 0) ∧ J o wr) (fun _ wr => leftS b wr)
  case atStart => exact ⟨[], s, Lib.hid rfl, hs, h1, h2, h3, h0⟩
  case round =>
    clear h1 h2 h3 h0
    obtain ⟨o, t, HP, ht, h1, h2, h3, hJs⟩ := hrel
    have c1 := h1.cell
    have c2 := h2.cell
    have c3 := h3.cell
    gi_wp2_with fail
    refine ⟨trivial, (callsIn_wide.2 (blindex t _)).mono ?_⟩
    rintro _ w2 ⟨rfl, rfl⟩
    by_cases hd : 46 ∈ t
    · obtain ⟨k, a, r, hi, hta, hak, hna⟩ := Lab.idx_yes hd
      rw [hi]
      have HPT : Hid (Lab.parts s = (o ++ [a]) ++ Lab.parts r) := Lib.hid (by rw [HP.out, hta, Lab.parts_cut hna]; simp)
      have hkl : k + 1 + r.length = t.length := by rw [hta]; simp; omega
      obtain ⟨fn, tmps, assign, body, hy, hR⟩ := hY _ a w2 hJs (by rw [HPT.out]; exact List.prefix_append _ _)
      have P1 : ∀ w, (Instr.slice 9 (.string (strB t)) none (some (.int .i64 (k : Int))) none).run Tryd.prog w = .ok (.string (strB a)) w := fun w => by
        have h5 := run_head (w := w) (l := t) (b := k) (j := (k : Int)) rfl (by omega)
        rw [hta, ← hak, List.take_left] at h5
        rw [hta, ← hak]
        exact h5
      have P2 : ∀ w, (Instr.slice 9 (.string (strB t)) (some (.int .i64 ((k : Int) + 1))) none none).run Tryd.prog w = .ok (.string (strB r)) w := fun w => by
        have h5 := run_tail (w := w) (l := t) (a := k + 1) (i := (k : Int) + 1) (by omega) (by omega)
        have e5 : t.drop (k + 1) = r := by rw [hta, ← hak, ← List.drop_drop, List.drop_left]; rfl
        rw [e5] at h5
        exact h5
      have g1 : decide ((k : Int) < 0) = false := decide_eq_false (by omega)
      have HM : Hid (r.length < t.length) := Lib.hid (by omega)
      have LT := Lib.hid (leftS_box h1)
      have hk1 : k ≤ 1000000 := by omega
      have HR1 : Hid (r.length ≤ 1000000) := Lib.hid (by omega)
      clear hi hta hak hna hd HP hkl
      gi_wp2
      refine hR.mono ?_
      rintro e W3 (⟨rfl, hJ3, hk3⟩ | ⟨rfl, hJx3⟩)
      · have d1 := Boxed.keep h1 hk3 (by omega)
        have d2 := Boxed.keep h2 hk3 (by omega)
        have d3 := Boxed.keep h3 hk3 (by omega)
        have e1 := d1.cell
        have e2 := d2.cell
        have e3 := d3.cell
        have f1 := d1.frozen
        have L2 := Lib.hid (leftS_box (d1.set (.string (strB r))))
        clear c1 c2 c3 h1 h2 h3
        gi_wp2
        go_roundw
        case rel => exact ⟨o ++ [a], r, HPT, HR1.out, d1.set _, d2.other (by omega) _, d3.other (by omega) _, hJc _ _ _ _ hJ3 hb.1 (by omega)⟩
        case measure => rw [L2.out, LT.out]; exact HM.out
      · gi_wp2
        refine bodyPost_ret (results_none rfl _ _ _) rfl ?_
        exact ⟨⟨_, rfl⟩, .inr ⟨_, by rw [HPT.out]; exact List.prefix_append _ _, hJx3⟩⟩
    · rw [Lab.idx_no hd]
      have HPT : Hid (Lab.parts s = o ++ [t]) := Lib.hid (by rw [HP.out, Lab.parts_one hd])
      obtain ⟨fn, tmps, assign, body, hy, hR⟩ := hY _ t w2 hJs (by rw [HPT.out]; exact List.prefix_refl _)
      clear hd HP
      gi_wp2
      refine hR.mono ?_
      rintro e W3 (⟨rfl, hJ3, hk3⟩ | ⟨rfl, hJx3⟩)
      · gi_wp2
        go_end0
        exact ⟨⟨_, rfl⟩, .inl (by rw [HPT.out]; exact hJ3)⟩
      · gi_wp2
        go_end0
        exact ⟨⟨_, rfl⟩, .inr ⟨_, by rw [HPT.out]; exact List.prefix_refl _, hJx3⟩⟩
end Go.Proofs.YtillnjhmdgmgeaaDoor
