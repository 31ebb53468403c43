/- The document's labels: a name cut. -/
import Derived.Test.YtillnjhmdgmgeaaDoorBMem
namespace Go.Proofs.YtillnjhmdgmgeaaDoor
set_option linter.unusedVariables false
set_option linter.unusedSimpArgs false
open Go.RowKit
theorem drop_at {s : List UInt8} {k : Nat} {c : UInt8} {r : List UInt8} (h : s.drop k = c :: r) : s[k]? = some c ∧ k + 1 + r.length = s.length ∧ s.drop (k + 1) = r := by
  have hl := congrArg List.length h
  rw [List.length_drop, List.length_cons] at hl
  refine ⟨?_, by omega, ?_⟩
  · have h1 := congrArg (fun l : List UInt8 => l[0]?) h
    simp only [List.getElem?_drop, Nat.add_zero, List.getElem?_cons_zero] at h1
    exact h1
  · have h2 := congrArg (List.drop 1) h
    rw [List.drop_drop, List.drop_one, List.tail_cons] at h2
    exact h2
namespace Lab
/-- a name cut so far -/
def At (s : List UInt8) (o : List (List UInt8)) (k : Nat) : Prop := (∀ x ∈ o, okL x) ∧ wires o ++ s.drop k = s ∧ (wires o).length = k
theorem at_lab {s : List UInt8} {o : List (List UInt8)} {k : Nat} (h : At s o k) : lab s = (lab (s.drop k)).map (o ++ ·) := by
  have := lab_wires h.1 (s.drop k)
  rwa [h.2.1] at this
theorem at_end {s : List UInt8} {o : List (List UInt8)} {k : Nat} (h : At s o k) (hd : s.drop k = []) : cut s = none := by
  have h1 := at_lab h
  rw [hd, lab_nil] at h1
  unfold cut
  split
  · rfl
  · exact h1
theorem at_bad {s r : List UInt8} {o : List (List UInt8)} {k : Nat} {c : UInt8} (h : At s o k) (hd : s.drop k = c :: r) (hc : c ≠ 0) (hb : 63 < c.toNat ∨ r.length < c.toNat) : cut s = none := by
  have h1 := at_lab h
  rw [hd, lab_cons, if_neg hc, if_pos hb] at h1
  unfold cut
  split
  · rfl
  · exact h1
theorem at_zero {s r : List UInt8} {o : List (List UInt8)} {k : Nat} (h : At s o k) (hd : s.drop k = 0 :: r) : cut s = if 255 < s.length then none else if r = [] then some o else none := by
  have h1 := at_lab h
  rw [hd, lab_cons, if_pos rfl] at h1
  unfold cut
  split
  · rfl
  · rw [h1]
    split
    · simp
    · rfl
theorem at_next {s r : List UInt8} {o : List (List UInt8)} {k : Nat} {c : UInt8} (h : At s o k) (hd : s.drop k = c :: r) (hc : c ≠ 0) (hb : ¬ (63 < c.toNat ∨ r.length < c.toNat)) : At s (o ++ [r.take c.toNat]) (k + 1 + c.toNat) := by
  have hlen : (r.take c.toNat).length = c.toNat := by rw [List.length_take]; omega
  have hp := pos_of hc
  have hw : wires [r.take c.toNat] = c :: r.take c.toNat := by
    show wire (r.take c.toNat) ++ [] = _
    unfold wire
    rw [hlen, UInt8.ofNat_toNat, List.append_nil]
  have hd2 : s.drop (k + 1 + c.toNat) = r.drop c.toNat := by rw [← List.drop_drop, (drop_at hd).2.2]
  refine ⟨fun x hx => ?_, ?_, ?_⟩
  · rcases List.mem_append.1 hx with hx | hx
    · exact h.1 x hx
    · obtain rfl : x = r.take c.toNat := by simpa using hx
      exact ⟨by omega, by omega⟩
  · rw [wires_app, hw, hd2, List.append_assoc]
    show wires o ++ (c :: (r.take c.toNat ++ r.drop c.toNat)) = s
    rw [List.take_append_drop, ← hd]
    exact h.2.1
  · rw [wires_app, hw, List.length_append, h.2.2, List.length_cons, hlen]
    omega
theorem at_part {s r : List UInt8} {k : Nat} {c : UInt8} (hd : s.drop k = c :: r) (n : Nat) : (s.drop (k + 1)).take n = r.take n := by rw [(drop_at hd).2.2]
end Lab
theorem i64_of {z : Int} (h1 : -9223372036854775808 ≤ z) (h2 : z ≤ 9223372036854775807) : IntKind.i64.wrap z = z := IntWalk.i64_in _ (by omega)
theorem w64_of {z : Int} (h1 : -9223372036854775808 ≤ z) (h2 : z ≤ 9223372036854775807) : wrap64 z = z := by unfold wrap64; omega
set_option maxHeartbeats 4000000 in
set_option maxRecDepth 20000 in
theorem rcut_any (s : List UInt8) (hs : s.length ≤ 1100000) (w : World) : Calls Tryd.prog 32 #[.string (strB s)] w (CutR (Lab.cut s) w) := by
  obtain ⟨n, hn⟩ : ∃ n, s.length = n := ⟨_, rfl⟩
  have hsz : (strB s).size = n := by rw [strB_sz, hn]
  rw [hn] at hs
  have HN := Lib.hid hn
  clear hn
  go_enter Tryd.func32, Tryd.ntmps32
  go_wp2
  go_loopw [4, 5] (fun v i wr => ∃ (k m : Nat) (A : Option Addr) (c : Nat) (o : List (List UInt8)), k ≤ n ∧ m ≤ k ∧ i = .int .i64 (k : Int) ∧ v = .slice A m c ∧ Hid (Lab.At s o k) ∧ wr.ownsRow w.heap.size 9 1 (.slice A m c) m (Tt o) ∧ Below w.heap.size w wr) (fun _ i _ => n - (intOf i).toNat)
  case atStart => exact ⟨0, 0, none, 0, [], by omega, by omega, rfl, rfl, Lib.hid ⟨by simp, by simp [Lab.wires], rfl⟩, World.ownsRow_nil _ _ _ _, Below.refl _ _⟩
  case round =>
    obtain ⟨k, m, A, c, o, hk, hm, rfl, rfl, HA, own, bl⟩ := hrel
    have hk0 : (0 : Int) ≤ (k : Int) := by omega
    have hml : (Tt o).length = m := by have := own.1; rwa [Nat.mul_one] at this
    have HO := Lib.hid hml
    clear hml
    obtain ⟨nm1, hnm1⟩ : ∃ z : Int, (n : Int) - 1 = z := ⟨_, rfl⟩
    have V : Hid (wrap64 ((n : Int) - 1) = nm1 ∧ IntKind.i64.wrap ((n : Int) - 1) = nm1) := Lib.hid ⟨by rw [← hnm1]; exact w64_of (by omega) (by omega), by rw [← hnm1]; exact i64_of (by omega) (by omega)⟩
    have HM1 := Lib.hid hnm1
    clear hnm1
    rcases hd : s.drop k with _ | ⟨x, r⟩
    · have hkn : k = n := by have h1 := congrArg List.length hd; rw [List.length_drop] at h1; have := HN.out; simp at h1; omega
      have CN := Lib.hid (Lab.at_end HA.out hd)
      have g1 : decide ((k : Int) < (n : Int)) = false := decide_eq_false (by omega)
      have g2 : ((k : Int) != nm1) = true := by rw [bne_iff_ne]; have := HM1.out; omega
      have g3 : decide (k < n) = false := decide_eq_false (by omega)
      clear hd hkn HA own
      obtain ⟨v1, v2⟩ := V.out
      go_wp2
      go_ret2
      exact ⟨⟨none, 0, 0, by rw [CN.out]; rfl, by rw [CN.out]; rfl, by rw [CN.out]; exact Rd.zero _ _ _ _, by omega, by omega⟩, bl⟩
    · obtain ⟨hx, hlr, _⟩ := drop_at hd
      have hrl : k + 1 + r.length = n := by have := HN.out; omega
      have HD := Lib.hid hd
      have IXA : ∀ w, (Instr.index 9 (.string (strB s)) (.int .i64 (k : Int))).run Tryd.prog w = .ok (.int .u8 (x.toNat : Int)) w := fun w => run_chr hx
      have g1 : decide ((k : Int) < (n : Int)) = true := decide_eq_true (by omega)
      have g3 : decide (k < n) = true := decide_eq_true (by omega)
      clear hd hx hlr
      by_cases hx0 : x = 0
      · subst hx0
        have CZ := Lib.hid (Lab.at_zero HA.out HD.out)
        by_cases hr : r.length = 0
        · have hr0 : r = [] := List.eq_nil_of_length_eq_zero hr
          have g2 : ((k : Int) != nm1) = false := by rw [bne_eq_false_iff_eq]; have := HM1.out; omega
          by_cases h255 : 255 < n
          · have CN : Hid (Lab.cut s = none) := Lib.hid (by rw [CZ.out, HN.out, if_pos h255])
            clear hr0 HA own
            obtain ⟨v1, v2⟩ := V.out
            go_wp2
            go_ret2
            exact ⟨⟨none, 0, 0, by rw [CN.out]; rfl, by rw [CN.out]; rfl, by rw [CN.out]; exact Rd.zero _ _ _ _, by omega, by omega⟩, bl⟩
          · have CN : Hid (Lab.cut s = some o) := Lib.hid (by rw [CZ.out, HN.out, if_neg h255, if_pos hr0])
            have R := Rd.of_own own
            have hc := own_cap own
            clear hr0 HA own
            obtain ⟨v1, v2⟩ := V.out
            go_wp2
            go_ret2
            exact ⟨⟨A, m, c, by rw [CN.out]; rfl, by rw [CN.out]; have := HO.out; rw [Tt_len] at this; exact this.symm, by rw [CN.out]; exact R, hc.1, hc.2⟩, bl⟩
        · have hr0 : r ≠ [] := fun e => hr (by rw [e]; rfl)
          have g2 : ((k : Int) != nm1) = true := by rw [bne_iff_ne]; have := HM1.out; omega
          have CN : Hid (Lab.cut s = none) := Lib.hid (by rw [CZ.out, if_neg hr0]; split <;> rfl)
          clear hr0 HA own
          obtain ⟨v1, v2⟩ := V.out
          go_wp2
          go_ret2
          exact ⟨⟨none, 0, 0, by rw [CN.out]; rfl, by rw [CN.out]; rfl, by rw [CN.out]; exact Rd.zero _ _ _ _, by omega, by omega⟩, bl⟩
      · have hp := Lab.pos_of hx0
        have h256 : x.toNat < 256 := x.toNat_lt
        obtain ⟨y, hy⟩ : ∃ y, x.toNat = y := ⟨_, rfl⟩
        rw [hy] at IXA hp h256
        obtain ⟨ci, hci⟩ : ∃ z : Int, (y : Int) = z := ⟨_, rfl⟩
        rw [hci] at IXA
        have g4 : (ci != 0) = true := by rw [bne_iff_ne]; omega
        have CV : Hid (IntKind.i64.wrap ci = ci) := Lib.hid (i64_of (by omega) (by omega))
        have HY := Lib.hid hy
        have HX0 := Lib.hid hx0
        obtain ⟨k1, hk1⟩ : ∃ z : Int, (k : Int) + 1 = z := ⟨_, rfl⟩
        obtain ⟨k2, hk2⟩ : ∃ z : Int, k1 + ci = z := ⟨_, rfl⟩
        have U1 : Hid (wrap64 ((k : Int) + 1) = k1 ∧ IntKind.i64.wrap ((k : Int) + 1) = k1) := Lib.hid ⟨by rw [← hk1]; exact w64_of (by omega) (by omega), by rw [← hk1]; exact i64_of (by omega) (by omega)⟩
        have U2 : Hid (wrap64 (k1 + ci) = k2 ∧ IntKind.i64.wrap (k1 + ci) = k2) := Lib.hid ⟨by rw [← hk2]; exact w64_of (by omega) (by omega), by rw [← hk2]; exact i64_of (by omega) (by omega)⟩
        have CI := Lib.hid hci
        have HP := Lib.hid hp
        have K1 := Lib.hid hk1
        have K2 := Lib.hid hk2
        by_cases hb1 : 63 < y
        · have CN := Lib.hid (Lab.at_bad HA.out HD.out HX0.out (Or.inl (by rw [HY.out]; exact hb1)))
          have g6 : decide (63 < ci) = true := decide_eq_true (by omega)
          clear HA own hy hx0 hk1 hk2 hci h256 hp hb1
          obtain ⟨v1, v2⟩ := V.out
          obtain ⟨u1, u2⟩ := U1.out
          obtain ⟨u3, u4⟩ := U2.out
          have cv := CV.out
          go_wp2
          go_ret2
          exact ⟨⟨none, 0, 0, by rw [CN.out]; rfl, by rw [CN.out]; rfl, by rw [CN.out]; exact Rd.zero _ _ _ _, by omega, by omega⟩, bl⟩
        have g6 : decide (63 < ci) = false := decide_eq_false (by omega)
        by_cases hb2 : r.length < y
        · have CN := Lib.hid (Lab.at_bad HA.out HD.out HX0.out (Or.inr (by rw [HY.out]; exact hb2)))
          have g5 : decide ((n : Int) < k2) = true := decide_eq_true (by omega)
          clear HA own hy hx0 hk1 hk2 hci h256 hp hb1 hb2
          obtain ⟨v1, v2⟩ := V.out
          obtain ⟨u1, u2⟩ := U1.out
          obtain ⟨u3, u4⟩ := U2.out
          have cv := CV.out
          go_wp2
          go_ret2
          exact ⟨⟨none, 0, 0, by rw [CN.out]; rfl, by rw [CN.out]; rfl, by rw [CN.out]; exact Rd.zero _ _ _ _, by omega, by omega⟩, bl⟩
        have g5 : decide ((n : Int) < k2) = false := decide_eq_false (by omega)
        have NX := Lib.hid (Lab.at_next HA.out HD.out HX0.out (by rw [HY.out]; omega))
        have PT : ∀ w, (Instr.slice 9 (.string (strB s)) (some (.int .i64 k1)) (some (.int .i64 k2)) none).run Tryd.prog w = .ok (.string (strB (r.take y))) w := fun w => by
          have h1 := run_part (w := w) (l := s) (a := k + 1) (b := k + 1 + y) (i := k1) (j := k2) (by omega) (by omega) (by omega) (by rw [HN.out]; omega)
          rwa [show k + 1 + y - (k + 1) = y by omega, Lab.at_part HD.out] at h1
        obtain ⟨t, ht⟩ : ∃ t, r.take y = t := ⟨_, rfl⟩
        rw [ht] at PT
        rw [HY.out, ht] at NX
        have hmn : m ≤ 1100000 := by omega
        have HE : Hid (k + 1 + y ≤ n ∧ k2 = ((k + 1 + y : Nat) : Int)) := Lib.hid ⟨by omega, by omega⟩
        have own1 := own.alloc (.cells #[.string (strB t)] 9)
        have R1 : Rd (wr.alloc (.cells #[.string (strB t)] 9)) (wr.heap.size + 1) 1 (some ⟨wr.heap.size, 0, none⟩) 1 (Tt [t]) := Rd.one wr (.string (strB t)) 9
        have bl1 := bl.alloc bl.size (.cells #[.string (strB t)] 9)
        have hsz1 : w.heap.size ≤ (wr.alloc (.cells #[.string (strB t)] 9)).heap.size := bl1.size
        clear ht HA own hy hx0 hk1 hk2 hci h256 hp hb1 hb2
        obtain ⟨v1, v2⟩ := V.out
        obtain ⟨u1, u2⟩ := U1.out
        obtain ⟨u3, u4⟩ := U2.out
        have cv := CV.out
        go_wp2_with (at_builtin; refine app_law strT rfl (.tmp 32) (.tmp 41) rfl w.heap.size rfl own1 rfl R1 (Tt_one [t]) (by omega) (by omega) hsz1 ?_; rintro A2 c2 w2 ⟨own2, hg2, _, _⟩)
        go_roundw
        case rel => exact ⟨k + 1 + y, m + 1, A2, c2, o ++ [t], HE.out.1, by omega, by rw [HE.out.2], rfl, NX, by rw [Tt_app]; exact own2, below_app bl1 own1 hg2 (Nat.le_refl _) hsz1⟩
        case measure => rw [HE.out.2]; have h1 := HE.out.1; simp only [intOf]; omega
end Go.Proofs.YtillnjhmdgmgeaaDoor
