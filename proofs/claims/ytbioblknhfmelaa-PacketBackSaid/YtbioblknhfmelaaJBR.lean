/- BRef BRef2 BRef3 BRef4 BRef5 BRef6 (merged). -/
import Derived.Deep.QuietTactic
import Derived.Deep.AppendLies
import Derived.Laws.OwnMore
import Derived.Test.YtbioblknhfmelaaJBMem
namespace Go.Proofs.Ytbioblknhfmelaa
set_option linter.unusedVariables false
set_option linter.unusedSimpArgs false
open Go.RowKit
theorem drop_at {s : List UInt8} {k : Nat} {c : UInt8} {r : List UInt8} (h : s.drop k = c :: r) : s[k]? = some c ∧ k + 1 + r.length = s.length ∧ s.drop (k + 1) = r := by
  have hl := congrArg List.length h
  rw [List.length_drop, List.length_cons] at hl
  refine ⟨?_, by omega, ?_⟩
  · have h1 := congrArg (fun l : List UInt8 => l[0]?) h
    simp only [List.getElem?_drop, Nat.add_zero, List.getElem?_cons_zero] at h1
    exact h1
  · have h2 := congrArg (List.drop 1) h
    rw [List.drop_drop, List.drop_one, List.tail_cons] at h2
    exact h2
namespace Lab
/-- a name cut so far -/
def At (s : List UInt8) (o : List (List UInt8)) (k : Nat) : Prop := (∀ x ∈ o, okL x) ∧ wires o ++ s.drop k = s ∧ (wires o).length = k
theorem at_lab {s : List UInt8} {o : List (List UInt8)} {k : Nat} (h : At s o k) : lab s = (lab (s.drop k)).map (o ++ ·) := by
  have := lab_wires h.1 (s.drop k)
  rwa [h.2.1] at this
theorem at_end {s : List UInt8} {o : List (List UInt8)} {k : Nat} (h : At s o k) (hd : s.drop k = []) : cut s = none := by
  have h1 := at_lab h
  rw [hd, lab_nil] at h1
  unfold cut
  split
  · rfl
  · exact h1
theorem at_bad {s r : List UInt8} {o : List (List UInt8)} {k : Nat} {c : UInt8} (h : At s o k) (hd : s.drop k = c :: r) (hc : c ≠ 0) (hb : 63 < c.toNat ∨ r.length < c.toNat) : cut s = none := by
  have h1 := at_lab h
  rw [hd, lab_cons, if_neg hc, if_pos hb] at h1
  unfold cut
  split
  · rfl
  · exact h1
theorem at_zero {s r : List UInt8} {o : List (List UInt8)} {k : Nat} (h : At s o k) (hd : s.drop k = 0 :: r) : cut s = if 255 < s.length then none else if r = [] then some o else none := by
  have h1 := at_lab h
  rw [hd, lab_cons, if_pos rfl] at h1
  unfold cut
  split
  · rfl
  · rw [h1]
    split
    · simp
    · rfl
theorem at_next {s r : List UInt8} {o : List (List UInt8)} {k : Nat} {c : UInt8} (h : At s o k) (hd : s.drop k = c :: r) (hc : c ≠ 0) (hb : ¬ (63 < c.toNat ∨ r.length < c.toNat)) : At s (o ++ [r.take c.toNat]) (k + 1 + c.toNat) := by
  have hlen : (r.take c.toNat).length = c.toNat := by rw [List.length_take]; omega
  have hp := pos_of hc
  have hw : wires [r.take c.toNat] = c :: r.take c.toNat := by
    show wire (r.take c.toNat) ++ [] = _
    unfold wire
    rw [hlen, UInt8.ofNat_toNat, List.append_nil]
  have hd2 : s.drop (k + 1 + c.toNat) = r.drop c.toNat := by rw [← List.drop_drop, (drop_at hd).2.2]
  refine ⟨fun x hx => ?_, ?_, ?_⟩
  · rcases List.mem_append.1 hx with hx | hx
    · exact h.1 x hx
    · obtain rfl : x = r.take c.toNat := by simpa using hx
      exact ⟨by omega, by omega⟩
  · rw [wires_app, hw, hd2, List.append_assoc]
    show wires o ++ (c :: (r.take c.toNat ++ r.drop c.toNat)) = s
    rw [List.take_append_drop, ← hd]
    exact h.2.1
  · rw [wires_app, hw, List.length_append, h.2.2, List.length_cons, hlen]
    omega
theorem at_part {s r : List UInt8} {k : Nat} {c : UInt8} (hd : s.drop k = c :: r) (n : Nat) : (s.drop (k + 1)).take n = r.take n := by rw [(drop_at hd).2.2]
end Lab
theorem i64_of {z : Int} (h1 : -9223372036854775808 ≤ z) (h2 : z ≤ 9223372036854775807) : IntKind.i64.wrap z = z := IntWalk.i64_in _ (by omega)
theorem w64_of {z : Int} (h1 : -9223372036854775808 ≤ z) (h2 : z ≤ 9223372036854775807) : wrap64 z = z := by unfold wrap64; omega
set_option maxHeartbeats 4000000 in
set_option maxRecDepth 20000 in
theorem rcut_any (s : List UInt8) (hs : s.length ≤ 1100000) (w : World) : Calls Try.prog 38 #[.string (strB s)] w (CutR (Lab.cut s) w) := by
  obtain ⟨n, hn⟩ : ∃ n, s.length = n := ⟨_, rfl⟩
  have hsz : (strB s).size = n := by rw [strB_sz, hn]
  rw [hn] at hs
  have HN := Lib.hid hn
  clear hn
  go_enter Try.func38, Try.ntmps38
  go_wp2
  go_loopw [4, 5] (fun v i wr => ∃ (k m : Nat) (A : Option Addr) (c : Nat) (o : List (List UInt8)), k ≤ n ∧ m ≤ k ∧ i = .int .i64 (k : Int) ∧ v = .slice A m c ∧ Hid (Lab.At s o k) ∧ wr.ownsRow w.heap.size 9 1 (.slice A m c) m (Tt o) ∧ Below w.heap.size w wr) (fun _ i _ => n - (intOf i).toNat)
  case atStart => exact ⟨0, 0, none, 0, [], by omega, by omega, rfl, rfl, Lib.hid ⟨by simp, by simp [Lab.wires], rfl⟩, World.ownsRow_nil _ _ _ _, Below.refl _ _⟩
  case round =>
    obtain ⟨k, m, A, c, o, hk, hm, rfl, rfl, HA, own, bl⟩ := hrel
    have hk0 : (0 : Int) ≤ (k : Int) := by omega
    have hml : (Tt o).length = m := by have := own.1; rwa [Nat.mul_one] at this
    have HO := Lib.hid hml
    clear hml
    obtain ⟨nm1, hnm1⟩ : ∃ z : Int, (n : Int) - 1 = z := ⟨_, rfl⟩
    have V : Hid (wrap64 ((n : Int) - 1) = nm1 ∧ IntKind.i64.wrap ((n : Int) - 1) = nm1) := Lib.hid ⟨by rw [← hnm1]; exact w64_of (by omega) (by omega), by rw [← hnm1]; exact i64_of (by omega) (by omega)⟩
    have HM1 := Lib.hid hnm1
    clear hnm1
    rcases hd : s.drop k with _ | ⟨x, r⟩
    · have hkn : k = n := by have h1 := congrArg List.length hd; rw [List.length_drop] at h1; have := HN.out; simp at h1; omega
      have CN := Lib.hid (Lab.at_end HA.out hd)
      have g1 : decide ((k : Int) < (n : Int)) = false := decide_eq_false (by omega)
      have g2 : ((k : Int) != nm1) = true := by rw [bne_iff_ne]; have := HM1.out; omega
      have g3 : decide (k < n) = false := decide_eq_false (by omega)
      clear hd hkn HA own
      obtain ⟨v1, v2⟩ := V.out
      go_wp2
      go_ret2
      exact ⟨⟨none, 0, 0, by rw [CN.out]; rfl, by rw [CN.out]; rfl, by rw [CN.out]; exact Rd.zero _ _ _ _, by omega, by omega⟩, bl⟩
    · obtain ⟨hx, hlr, _⟩ := drop_at hd
      have hrl : k + 1 + r.length = n := by have := HN.out; omega
      have HD := Lib.hid hd
      have IXA : ∀ w, (Instr.index 9 (.string (strB s)) (.int .i64 (k : Int))).run Try.prog w = .ok (.int .u8 (x.toNat : Int)) w := fun w => run_chr hx
      have g1 : decide ((k : Int) < (n : Int)) = true := decide_eq_true (by omega)
      have g3 : decide (k < n) = true := decide_eq_true (by omega)
      clear hd hx hlr
      by_cases hx0 : x = 0
      · subst hx0
        have CZ := Lib.hid (Lab.at_zero HA.out HD.out)
        by_cases hr : r.length = 0
        · have hr0 : r = [] := List.eq_nil_of_length_eq_zero hr
          have g2 : ((k : Int) != nm1) = false := by rw [bne_eq_false_iff_eq]; have := HM1.out; omega
          by_cases h255 : 255 < n
          · have CN : Hid (Lab.cut s = none) := Lib.hid (by rw [CZ.out, HN.out, if_pos h255])
            clear hr0 HA own
            obtain ⟨v1, v2⟩ := V.out
            go_wp2
            go_ret2
            exact ⟨⟨none, 0, 0, by rw [CN.out]; rfl, by rw [CN.out]; rfl, by rw [CN.out]; exact Rd.zero _ _ _ _, by omega, by omega⟩, bl⟩
          · have CN : Hid (Lab.cut s = some o) := Lib.hid (by rw [CZ.out, HN.out, if_neg h255, if_pos hr0])
            have R := Rd.of_own own
            have hc := own_cap own
            clear hr0 HA own
            obtain ⟨v1, v2⟩ := V.out
            go_wp2
            go_ret2
            exact ⟨⟨A, m, c, by rw [CN.out]; rfl, by rw [CN.out]; have := HO.out; rw [Tt_len] at this; exact this.symm, by rw [CN.out]; exact R, hc.1, hc.2⟩, bl⟩
        · have hr0 : r ≠ [] := fun e => hr (by rw [e]; rfl)
          have g2 : ((k : Int) != nm1) = true := by rw [bne_iff_ne]; have := HM1.out; omega
          have CN : Hid (Lab.cut s = none) := Lib.hid (by rw [CZ.out, if_neg hr0]; split <;> rfl)
          clear hr0 HA own
          obtain ⟨v1, v2⟩ := V.out
          go_wp2
          go_ret2
          exact ⟨⟨none, 0, 0, by rw [CN.out]; rfl, by rw [CN.out]; rfl, by rw [CN.out]; exact Rd.zero _ _ _ _, by omega, by omega⟩, bl⟩
      · have hp := Lab.pos_of hx0
        have h256 : x.toNat < 256 := x.toNat_lt
        obtain ⟨y, hy⟩ : ∃ y, x.toNat = y := ⟨_, rfl⟩
        rw [hy] at IXA hp h256
        obtain ⟨ci, hci⟩ : ∃ z : Int, (y : Int) = z := ⟨_, rfl⟩
        rw [hci] at IXA
        have g4 : (ci != 0) = true := by rw [bne_iff_ne]; omega
        have CV : Hid (IntKind.i64.wrap ci = ci) := Lib.hid (i64_of (by omega) (by omega))
        have HY := Lib.hid hy
        have HX0 := Lib.hid hx0
        obtain ⟨k1, hk1⟩ : ∃ z : Int, (k : Int) + 1 = z := ⟨_, rfl⟩
        obtain ⟨k2, hk2⟩ : ∃ z : Int, k1 + ci = z := ⟨_, rfl⟩
        have U1 : Hid (wrap64 ((k : Int) + 1) = k1 ∧ IntKind.i64.wrap ((k : Int) + 1) = k1) := Lib.hid ⟨by rw [← hk1]; exact w64_of (by omega) (by omega), by rw [← hk1]; exact i64_of (by omega) (by omega)⟩
        have U2 : Hid (wrap64 (k1 + ci) = k2 ∧ IntKind.i64.wrap (k1 + ci) = k2) := Lib.hid ⟨by rw [← hk2]; exact w64_of (by omega) (by omega), by rw [← hk2]; exact i64_of (by omega) (by omega)⟩
        have CI := Lib.hid hci
        have HP := Lib.hid hp
        have K1 := Lib.hid hk1
        have K2 := Lib.hid hk2
        by_cases hb1 : 63 < y
        · have CN := Lib.hid (Lab.at_bad HA.out HD.out HX0.out (Or.inl (by rw [HY.out]; exact hb1)))
          have g6 : decide (63 < ci) = true := decide_eq_true (by omega)
          clear HA own hy hx0 hk1 hk2 hci h256 hp hb1
          obtain ⟨v1, v2⟩ := V.out
          obtain ⟨u1, u2⟩ := U1.out
          obtain ⟨u3, u4⟩ := U2.out
          have cv := CV.out
          go_wp2
          go_ret2
          exact ⟨⟨none, 0, 0, by rw [CN.out]; rfl, by rw [CN.out]; rfl, by rw [CN.out]; exact Rd.zero _ _ _ _, by omega, by omega⟩, bl⟩
        have g6 : decide (63 < ci) = false := decide_eq_false (by omega)
        by_cases hb2 : r.length < y
        · have CN := Lib.hid (Lab.at_bad HA.out HD.out HX0.out (Or.inr (by rw [HY.out]; exact hb2)))
          have g5 : decide ((n : Int) < k2) = true := decide_eq_true (by omega)
          clear HA own hy hx0 hk1 hk2 hci h256 hp hb1 hb2
          obtain ⟨v1, v2⟩ := V.out
          obtain ⟨u1, u2⟩ := U1.out
          obtain ⟨u3, u4⟩ := U2.out
          have cv := CV.out
          go_wp2
          go_ret2
          exact ⟨⟨none, 0, 0, by rw [CN.out]; rfl, by rw [CN.out]; rfl, by rw [CN.out]; exact Rd.zero _ _ _ _, by omega, by omega⟩, bl⟩
        have g5 : decide ((n : Int) < k2) = false := decide_eq_false (by omega)
        have NX := Lib.hid (Lab.at_next HA.out HD.out HX0.out (by rw [HY.out]; omega))
        have PT : ∀ w, (Instr.slice 9 (.string (strB s)) (some (.int .i64 k1)) (some (.int .i64 k2)) none).run Try.prog w = .ok (.string (strB (r.take y))) w := fun w => by
          have h1 := run_part (w := w) (l := s) (a := k + 1) (b := k + 1 + y) (i := k1) (j := k2) (by omega) (by omega) (by omega) (by rw [HN.out]; omega)
          rwa [show k + 1 + y - (k + 1) = y by omega, Lab.at_part HD.out] at h1
        obtain ⟨t, ht⟩ : ∃ t, r.take y = t := ⟨_, rfl⟩
        rw [ht] at PT
        rw [HY.out, ht] at NX
        have hmn : m ≤ 1100000 := by omega
        have HE : Hid (k + 1 + y ≤ n ∧ k2 = ((k + 1 + y : Nat) : Int)) := Lib.hid ⟨by omega, by omega⟩
        have own1 := own.alloc (.cells #[.string (strB t)] 9)
        have R1 : Rd (wr.alloc (.cells #[.string (strB t)] 9)) (wr.heap.size + 1) 1 (some ⟨wr.heap.size, 0, none⟩) 1 (Tt [t]) := Rd.one wr (.string (strB t)) 9
        have bl1 := bl.alloc bl.size (.cells #[.string (strB t)] 9)
        have hsz1 : w.heap.size ≤ (wr.alloc (.cells #[.string (strB t)] 9)).heap.size := bl1.size
        clear ht HA own hy hx0 hk1 hk2 hci h256 hp hb1 hb2
        obtain ⟨v1, v2⟩ := V.out
        obtain ⟨u1, u2⟩ := U1.out
        obtain ⟨u3, u4⟩ := U2.out
        have cv := CV.out
        go_wp2_with (at_builtin; refine app_law strT rfl (.tmp 32) (.tmp 41) rfl w.heap.size rfl own1 rfl R1 (Tt_one [t]) (by omega) (by omega) hsz1 ?_; rintro A2 c2 w2 ⟨own2, hg2, _, _⟩)
        go_roundw
        case rel => exact ⟨k + 1 + y, m + 1, A2, c2, o ++ [t], HE.out.1, by omega, by rw [HE.out.2], rfl, NX, by rw [Tt_app]; exact own2, below_app bl1 own1 hg2 (Nat.le_refl _) hsz1⟩
        case measure => rw [HE.out.2]; have h1 := HE.out.1; simp only [intOf]; omega
end Go.Proofs.Ytbioblknhfmelaa

namespace Go.Proofs.Ytbioblknhfmelaa
set_option linter.unusedVariables false
set_option linter.unusedSimpArgs false
open Go.RowKit
theorem rlright_any (s : List UInt8) (hs : s.length ≤ 1100000) (w : World) : Calls Try.prog 19 #[.string (strB s)] w (BoB (Lab.right s) w) := by
  go_enter Try.func19, Try.ntmps19
  go_wp2_with fail
  refine (rcut_any s (by omega) w).mono ?_
  rintro e w1 ⟨⟨A, n, c, rfl, _, _, _, _⟩, hb⟩
  go_wp2
  go_ret
  exact ⟨rfl, hb⟩
namespace Lab
end Lab
end Go.Proofs.Ytbioblknhfmelaa

namespace Go.Proofs.Ytbioblknhfmelaa
set_option linter.unusedVariables false
set_option linter.unusedSimpArgs false
open Go.RowKit
/-! ### Bytes of one's own, each of which may be written -/
def Lo (w : World) (b : Nat) (l : List UInt8) : Prop := b < w.heap.size ∧ ∀ j x, l[j]? = some x → w.cell? ⟨b, j, none⟩ = some (.int .u8 (x.toNat : Int)) ∧ w.frozen? ⟨b, j, none⟩ = false
theorem Lo.below {w w' : World} {b B : Nat} {l : List UInt8} (h : Lo w b l) (hb : Below B w w') (hB : b < B) : Lo w' b l := by
  refine ⟨Nat.lt_of_lt_of_le h.1 hb.size, fun j x hx => ?_⟩
  obtain ⟨h1, h2⟩ := h.2 j x hx
  refine ⟨(hb.cell (p := ⟨b, j, none⟩) hB).trans h1, ?_⟩
  rw [← h2]
  unfold World.frozen?
  rw [show w'.heap[(⟨b, j, none⟩ : Addr).block]? = w.heap[(⟨b, j, none⟩ : Addr).block]? from hb.block b hB]
theorem Lo.set {w : World} {b k : Nat} {l : List UInt8} (h : Lo w b l) (y : UInt8) : Lo (w.setCell ⟨b, k, none⟩ (.int .u8 (y.toNat : Int))) b (l.set k y) := by
  refine ⟨by simpa using h.1, fun j x hx => ?_⟩
  by_cases e : k = j
  · subst e
    have hk : k < l.length := by
      have h1 := (List.getElem?_eq_some_iff.1 hx).1
      rwa [List.length_set] at h1
    obtain rfl : y = x := by rw [List.getElem?_set_self hk] at hx; injection hx
    obtain ⟨h1, h2⟩ := h.2 k _ (List.getElem?_eq_getElem hk)
    exact ⟨World.cell?_setCell_same' w _ _ (by rw [h1]; rfl), by rw [World.frozen?_setCell]; exact h2⟩
  · rw [List.getElem?_set_ne e] at hx
    obtain ⟨h1, h2⟩ := h.2 j x hx
    exact ⟨(World.cell?_setCell_other w _ _ _ (by intro h3; injection h3 with _ h4; exact e h4)).trans h1, by rw [World.frozen?_setCell]; exact h2⟩
theorem Lo.rd {w : World} {b : Nat} {l : List UInt8} (h : Lo w b l) : Rd w w.heap.size 1 (some ⟨b, 0, none⟩) l.length (U l) := by
  refine ⟨by simp [U_length], fun _ => ⟨b, 0, rfl, h.1, fun j hj => ?_⟩⟩
  rw [U_length] at hj
  obtain ⟨x, hx⟩ : ∃ x, l[j]? = some x := ⟨_, List.getElem?_eq_getElem hj⟩
  rw [Nat.zero_add, (h.2 j x hx).1, U_get, hx]
  rfl
theorem Lo.new (w : World) (l : List UInt8) : Lo (w.drew.alloc (strO w (strB l))) w.heap.size l := by
  refine ⟨by simp, fun j x hx => ?_⟩
  have hj := (List.getElem?_eq_some_iff.1 hx).1
  have R := Rd.bytes w l
  obtain ⟨b, o, e, _, hc⟩ := R.at1 hj
  obtain ⟨rfl, rfl⟩ : w.heap.size = b ∧ 0 = o := by simpa using e
  have h1 := hc j hj
  rw [Nat.zero_add] at h1
  refine ⟨by rw [h1, U_get, hx]; rfl, ?_⟩
  have h2 := World.frozen?_alloc_mark w.drew (bytesRow (strB l) (strC w (strB l))) 5 (bytesRow (strB l) (strC w (strB l))).size ((bytesRow (strB l) (strC w (strB l))).size + 1) j
  have h3 : j < (bytesRow (strB l) (strC w (strB l))).size := by
    have h4 := bytesRow_at (strB l) (strC w (strB l)) j (by simpa [strB] using hj)
    exact (Array.getElem?_eq_some_iff.1 h4).1
  unfold strO
  rw [show w.heap.size = w.drew.heap.size from rfl, h2]
  simp
  omega
namespace Lab
theorem low_step {s : List UInt8} {k : Nat} {x : UInt8} (h : s[k]? = some x) : (low (s.take k) ++ s.drop k).set k (lowB x) = low (s.take (k + 1)) ++ s.drop (k + 1) := by
  have hk := (List.getElem?_eq_some_iff.1 h).1
  have hl : (low (s.take k)).length = k := by rw [low_len, List.length_take]; omega
  have hd : s.drop k = x :: s.drop (k + 1) := by
    rw [List.drop_eq_getElem_cons hk]
    congr 1
    have h1 := List.getElem?_eq_getElem hk
    rw [h] at h1
    injection h1 with h1
    exact h1.symm
  rw [List.set_append_right k _ (by omega), hl, Nat.sub_self, hd, List.set_cons_zero, take_more h]
  unfold low
  rw [List.map_append, List.append_assoc]
  rfl
theorem low_at {s : List UInt8} {k : Nat} {x : UInt8} (h : s[k]? = some x) : (low (s.take k) ++ s.drop k)[k]? = some x := by
  have hk := (List.getElem?_eq_some_iff.1 h).1
  have hl : (low (s.take k)).length = k := by rw [low_len, List.length_take]; omega
  rw [List.getElem?_append_right (by omega), hl, Nat.sub_self, List.getElem?_drop, Nat.add_zero]
  exact h
theorem low_mid_len (s : List UInt8) (k : Nat) : (low (s.take k) ++ s.drop k).length = s.length := by rw [List.length_append, low_len, List.length_take, List.length_drop]; omega
theorem lowB_no {c : UInt8} (h : ¬ (65 ≤ c.toNat ∧ c.toNat ≤ 90)) : lowB c = c := if_neg h
end Lab
theorem u8_of' {z : Int} (h : 0 ≤ z ∧ z ≤ 255) : IntKind.u8.wrap z = z := IntWalk.u8_in _ h
set_option maxHeartbeats 4000000 in
set_option maxRecDepth 20000 in
theorem rlower_any (s : List UInt8) (hs : s.length ≤ 100000) (w : World) : Calls Try.prog 47 #[.string (strB s)] w (TxO (Lab.lower s) w) := by
  obtain ⟨n, hn⟩ : ∃ n, s.length = n := ⟨_, rfl⟩
  have hsz : (strB s).size = n := by rw [strB_sz, hn]
  have HN := Lib.hid hn
  have hby := run_bytes w (strB s)
  rw [hsz] at hby
  have L0 : Lo (w.alloc (strO w (strB s))).drew w.heap.size s := Lo.new w s
  have b0 : Below w.heap.size w (w.alloc (strO w (strB s))).drew := ((Below.refl w.heap.size w).alloc (Nat.le_refl _) (strO w (strB s))).drew
  have hnm : n ≤ 100000 := by omega
  obtain ⟨cp, hcp⟩ : ∃ cp, strC w (strB s) = cp := ⟨_, rfl⟩
  rw [hcp] at hby
  clear hn hs hcp
  go_enter Try.func47, Try.ntmps47
  go_wp2
  generalize (w.alloc (strO w (strB s))).drew = w1 at *
  go_loopw [4] (fun i wr => ∃ k : Nat, k ≤ n ∧ i = .int .i64 (k : Int) ∧ Lo wr w.heap.size (Lab.low (s.take k) ++ s.drop k) ∧ Hid (k = 0 ∨ Lab.right s = true) ∧ Below w.heap.size w wr) (fun i _ => n - (intOf i).toNat)
  case atStart => exact ⟨0, by omega, rfl, by simpa [Lab.low] using L0, Lib.hid (Or.inl rfl), b0⟩
  case round =>
    clear L0 b0
    obtain ⟨k, hk, rfl, L, HR, bl⟩ := hrel
    have hk0 : (0 : Int) ≤ (k : Int) := by omega
    have stop : Hid (k = n ∨ Lab.right s = false) → Hid (Lab.low (s.take k) ++ s.drop k = Lab.lower s) := fun h => Lib.hid (by
      have hl := HN.out
      rcases HR.out with h0 | h0
      · subst h0
        rcases h.out with h1 | h1
        · have : s = [] := List.eq_nil_of_length_eq_zero (by omega)
          subst this
          unfold Lab.lower
          split <;> rfl
        · rw [Lab.lower_no h1]; simp [Lab.low]
      · rcases h.out with h1 | h1
        · unfold Lab.lower
          rw [if_pos h0, List.take_of_length_le (by omega), List.drop_of_length_le (by omega), List.append_nil]
        · rw [h0] at h1; cases h1)
    have ES : ∀ (t : List UInt8), Lab.low (s.take k) ++ s.drop k = t → ∀ wr', Lo wr' w.heap.size t → (convert 28 9 (.slice (some ⟨w.heap.size, 0, none⟩) n cp)).run Try.prog wr' = .ok (.string (strB t)) wr' := fun t ht wr' hL => by
      have hlen : t.length = n := by rw [← ht, Lab.low_mid_len, HN.out]
      have R := hL.rd
      rw [hlen] at R
      exact run_str 28 9 5 Try.underlying28 Try.underlying5 Try.underlying9 R
    by_cases hlt : k < n
    · obtain ⟨x, hx⟩ : ∃ x, s[k]? = some x := ⟨_, List.getElem?_eq_getElem (by rw [HN.out]; exact hlt)⟩
      have HX := Lib.hid hx
      clear hx
      have g3 : decide (k < n) = true := decide_eq_true hlt
      have g1 : decide ((k : Int) < (n : Int)) = true := decide_eq_true (by omega)
      cases hr : Lab.right s with
      | false =>
        have ST := stop (Lib.hid (Or.inr hr))
        have HRF := Lib.hid hr
        clear hr stop
        obtain ⟨t, ht⟩ : ∃ t, Lab.lower s = t := ⟨_, rfl⟩
        have HTT := Lib.hid ht
        rw [ht] at ST
        clear ht
        rw [ST.out] at L
        go_wp2_with fail
        have ct := rlright_any s (by rw [HN.out]; omega) wr
        rw [HRF.out] at ct
        refine ct.mono ?_
        rintro e w2 ⟨rfl, hb⟩
        replace L := L.below hb L.1
        replace bl := bl.trans (hb.mono bl.size)
        have E := ES t ST.out w2 L
        clear hb ES ct
        go_wp2
        go_ret
        exact ⟨by rw [HTT.out]; rfl, bl⟩
      | true =>
        have HRT := Lib.hid hr
        clear hr stop ES
        go_wp2_with fail
        have ct := rlright_any s (by rw [HN.out]; omega) wr
        rw [HRT.out] at ct
        refine ct.mono ?_
        rintro e w2 ⟨rfl, hb⟩
        replace L := L.below hb L.1
        replace bl := bl.trans (hb.mono bl.size)
        clear hb ct
        obtain ⟨c0, f0⟩ := L.2 k x (Lab.low_at HX.out)
        have HST := Lib.hid (Lab.low_step HX.out)
        obtain ⟨ci, hci⟩ : ∃ z : Int, (x.toNat : Int) = z := ⟨_, rfl⟩
        rw [hci] at c0
        have hx256 : x.toNat < 256 := x.toNat_lt
        by_cases hg : 65 ≤ x.toNat ∧ x.toNat ≤ 90
        · have t1 : decide (65 ≤ ci) = true := decide_eq_true (by omega)
          have t2 : decide (ci ≤ 90) = true := decide_eq_true (by omega)
          have e1 : ((Lab.lowB x).toNat : Int) = ci + 32 := by rw [Lab.lowB_nat, if_pos hg]; omega
          have L2 := L.set (k := k) (Lab.lowB x)
          rw [HST.out, e1] at L2
          have u1 : IntKind.u8.wrap (ci + 32) = ci + 32 := u8_of' (by omega)
          have b2 := below_set (o := k) bl (Nat.le_refl _) (.int .u8 (ci + 32))
          clear hg hci e1 hx256 L bl
          go_wp2
          go_roundw
          case rel => exact ⟨k + 1, by omega, by go_num, L2, Lib.hid (Or.inr (by first | trivial | exact HRT.out)), b2⟩
          case measure => simp [intOf]; omega
        · have e1 := Lab.lowB_no hg
          have L2 : Lo w2 w.heap.size (Lab.low (s.take (k + 1)) ++ s.drop (k + 1)) := by
            rw [← HST.out, e1]
            have h1 := Lab.low_at HX.out
            have h2 : (Lab.low (s.take k) ++ s.drop k).set k x = Lab.low (s.take k) ++ s.drop k := by
              refine List.ext_getElem? fun j => ?_
              by_cases e : k = j
              · subst e; rw [List.getElem?_set_self (List.getElem?_eq_some_iff.1 h1).1, h1]
              · rw [List.getElem?_set_ne e]
            rw [h2]
            exact L
          by_cases ha : 65 ≤ x.toNat
          · have t1 : decide (65 ≤ ci) = true := decide_eq_true (by omega)
            have t2 : decide (ci ≤ 90) = false := decide_eq_false (by omega)
            clear hg hci e1 hx256 ha L
            go_wp2
            go_roundw
            case rel => exact ⟨k + 1, by omega, by go_num, L2, Lib.hid (Or.inr (by first | trivial | exact HRT.out)), bl⟩
            case measure => simp [intOf]; omega
          · have t1 : decide (65 ≤ ci) = false := decide_eq_false (by omega)
            clear hg hci e1 hx256 ha L
            go_wp2
            go_roundw
            case rel => exact ⟨k + 1, by omega, by go_num, L2, Lib.hid (Or.inr (by first | trivial | exact HRT.out)), bl⟩
            case measure => simp [intOf]; omega
    · have hkn : k = n := by omega
      have ST := stop (Lib.hid (Or.inl hkn))
      have g3 : decide (k < n) = false := decide_eq_false hlt
      have g1 : decide ((k : Int) < (n : Int)) = false := decide_eq_false (by omega)
      obtain ⟨t, ht⟩ : ∃ t, Lab.lower s = t := ⟨_, rfl⟩
      have HTT := Lib.hid ht
      rw [ht] at ST
      clear ht
      rw [ST.out] at L
      have E := ES t ST.out wr L
      clear stop ES hkn hlt
      go_wp2
      go_ret
      exact ⟨by rw [HTT.out]; rfl, bl⟩
end Go.Proofs.Ytbioblknhfmelaa

namespace Go.Proofs.Ytbioblknhfmelaa
set_option linter.unusedVariables false
set_option linter.unusedSimpArgs false
open Go.RowKit
theorem rlright_at {s : List UInt8} {z : Bool} (e : Lab.right s = z) (hs : s.length ≤ 100000) (w : World) : Calls Try.prog 19 #[.string (strB s)] w (BoB z w) := by have h := rlright_any s (by omega) w; rw [e] at h; exact h
theorem rlright_big {s : List UInt8} {z : Bool} (e : Lab.right s = z) (hs : s.length ≤ 1100000) (w : World) : Calls Try.prog 19 #[.string (strB s)] w (BoB z w) := by have h := rlright_any s hs w; rw [e] at h; exact h
theorem rlower_at {s t : List UInt8} (e : Lab.lower s = t) (hs : s.length ≤ 100000) (w : World) : Calls Try.prog 47 #[.string (strB s)] w (TxO t w) := by have h := rlower_any s hs w; rw [e] at h; exact h
set_option maxHeartbeats 2000000 in
theorem rsamel_any (a b : List UInt8) (ha : a.length ≤ 100000) (hb : b.length ≤ 100000) (w : World) : Calls Try.prog 37 #[.string (strB a), .string (strB b)] w (BoB (Lab.same a b) w) := by
  obtain ⟨za, hza⟩ : ∃ z, Lab.right a = z := ⟨_, rfl⟩
  obtain ⟨zb, hzb⟩ : ∃ z, Lab.right b = z := ⟨_, rfl⟩
  obtain ⟨ta, hta⟩ : ∃ z, Lab.lower a = z := ⟨_, rfl⟩
  obtain ⟨tb, htb⟩ : ∃ z, Lab.lower b = z := ⟨_, rfl⟩
  have EZ : Hid (Lab.same a b = (za && zb && decide (ta = tb))) := Lib.hid (by unfold Lab.same; rw [hza, hzb, hta, htb])
  obtain ⟨z, hz⟩ : ∃ z, Lab.same a b = z := ⟨_, rfl⟩
  rw [hz] at EZ ⊢
  have HZA := Lib.hid hza
  have HZB := Lib.hid hzb
  have HTA := Lib.hid hta
  have HTB := Lib.hid htb
  have b0 := Below.refl w.heap.size w
  clear hz hza hzb hta htb
  cases za
  · have EZ2 : Hid (z = false) := Lib.hid (by rw [EZ.out]; rfl)
    clear EZ
    go_enter Try.func37, Try.ntmps37
    go_wp2_with fail
    refine (rlright_at HZA.out ha w).mono ?_
    rintro e w1 ⟨rfl, h1⟩
    replace b0 := b0.trans (h1.mono b0.size)
    clear h1
    go_wp2
    go_ret
    exact ⟨ret_bool EZ2.out.symm, b0⟩
  cases zb
  · have EZ2 : Hid (z = false) := Lib.hid (by rw [EZ.out]; rfl)
    clear EZ
    go_enter Try.func37, Try.ntmps37
    go_wp2_with fail
    refine (rlright_at HZA.out ha w).mono ?_
    rintro e w1 ⟨rfl, h1⟩
    replace b0 := b0.trans (h1.mono b0.size)
    clear h1
    go_wp2_with fail
    refine (rlright_at HZB.out hb w1).mono ?_
    rintro e w2 ⟨rfl, h1⟩
    replace b0 := b0.trans (h1.mono b0.size)
    clear h1
    go_wp2
    go_ret
    exact ⟨ret_bool EZ2.out.symm, b0⟩
  have EZ2 : Hid ((strB ta == strB tb) = z) := Lib.hid (by rw [EZ.out, strB_beq]; simp)
  have EZ3 : Hid ((ta == tb) = z) := Lib.hid (by rw [EZ.out]; by_cases h : ta = tb <;> simp [h])
  clear EZ
  go_enter Try.func37, Try.ntmps37
  go_wp2_with fail
  refine (rlright_at HZA.out ha w).mono ?_
  rintro e w1 ⟨rfl, h1⟩
  replace b0 := b0.trans (h1.mono b0.size)
  clear h1
  go_wp2_with fail
  refine (rlright_at HZB.out hb w1).mono ?_
  rintro e w2 ⟨rfl, h1⟩
  replace b0 := b0.trans (h1.mono b0.size)
  clear h1
  go_wp2_with fail
  refine (rlower_at HTA.out ha w2).mono ?_
  rintro e w3 ⟨rfl, h1⟩
  replace b0 := b0.trans (h1.mono b0.size)
  clear h1
  go_wp2_with fail
  refine (rlower_at HTB.out hb w3).mono ?_
  rintro e w4 ⟨rfl, h1⟩
  replace b0 := b0.trans (h1.mono b0.size)
  clear h1
  have e1 := EZ2.out
  have e2 := EZ3.out
  go_wp2
  go_ret
  exact ⟨ret_bool (by first | exact e1 | exact e2 | simp_all), b0⟩
theorem rsamel_at {a b : List UInt8} {z : Bool} (e : Lab.same a b = z) (ha : a.length ≤ 100000) (hb : b.length ≤ 100000) (w : World) : Calls Try.prog 37 #[.string (strB a), .string (strB b)] w (BoB z w) := by have h := rsamel_any a b ha hb w; rw [e] at h; exact h
namespace Lab
end Lab
end Go.Proofs.Ytbioblknhfmelaa

namespace Go.Proofs.Ytbioblknhfmelaa
set_option linter.unusedVariables false
set_option linter.unusedSimpArgs false
open Go.RowKit
namespace Lab
end Lab
end Go.Proofs.Ytbioblknhfmelaa

namespace Go.Proofs.Ytbioblknhfmelaa
set_option linter.unusedVariables false
set_option linter.unusedSimpArgs false
open Go.RowKit
namespace Lab
end Lab
end Go.Proofs.Ytbioblknhfmelaa

