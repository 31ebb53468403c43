/- BRef2 BRef3 BRef4 ORef2 ORef3 ORef4 (merged). -/
import Derived.Deep.QuietTactic
import Derived.Deep.DeepCutAuto
import Derived.Test.YtmbfldcmiabccaaGreatDoorJF09
namespace Go.Proofs.YtmbfldcmiabccaaGreatDoor
set_option linter.unusedVariables false
set_option linter.unusedSimpArgs false
open Go.RowKit
theorem rlright_any (s : List UInt8) (hs : s.length ≤ 1100000) (w : World) : Calls Tryz.prog 57 #[.string (strB s)] w (BoB (Lab.right s) w) := by
  go_enter Tryz.func57, Tryz.ntmps57
  go_wp2_with fail
  refine (rcut_any s (by omega) w).mono ?_
  rintro e w1 ⟨⟨A, n, c, rfl, _, _, _, _⟩, hb⟩
  go_wp2
  go_ret
  exact ⟨rfl, hb⟩
theorem rlabels_any (s : List UInt8) (hs : s.length ≤ 100000) (w : World) : Calls Tryz.prog 58 #[.string (strB s)] w (LabR (Lab.labels s) w) := by
  go_enter Tryz.func58, Tryz.ntmps58
  go_wp2_with fail
  refine (rcut_any s (by omega) w).mono ?_
  rintro e w1 ⟨⟨A, n, c, rfl, rfl, h2, h3, h4⟩, hb⟩
  go_wp2
  go_ret
  exact ⟨⟨A, _, c, rfl, rfl, h2, h3, h4⟩, hb⟩
theorem take_len {l : List (List UInt8)} {k : Nat} {x : List UInt8} (h : l[k]? = some x) : l.take (k + 1) = l.take k ++ [x] := take_more h
namespace Lab
theorem join_nil {l : List (List UInt8)} {k : Nat} (h : l[k]? = some []) : join l = ([], 3) := by unfold join; rw [if_pos (List.mem_of_getElem? h)]
theorem join_no {l : List (List UInt8)} (h : ¬ [] ∈ l) (h2 : ¬ ok l) : join l = ([], 4) := by unfold join; rw [if_neg h, if_neg h2]
theorem wires_take (l : List (List UInt8)) (k : Nat) : (wires (l.take k)).length ≤ (wires l).length := by
  have e : l.take k ++ l.drop k = l := List.take_append_drop k l
  have h : wires l = wires (l.take k) ++ wires (l.drop k) := by rw [← wires_app, e]
  rw [h, List.length_append]; omega
theorem long_no {l : List (List UInt8)} {k : Nat} {x : List UInt8} (h : l[k]? = some x) (hx : 63 < x.length) : ¬ ok l := fun ho => by
  have := (ho.1 x (List.mem_of_getElem? h)).2
  omega
theorem much_no {l : List (List UInt8)} {k : Nat} (h : 254 < (wires (l.take k)).length) : ¬ ok l := fun ho => by
  have h1 := wires_take l k
  have h2 := ho.2
  rw [names_len] at h2
  omega
theorem ok_yes {l : List (List UInt8)} (h1 : ¬ [] ∈ l) (h2 : ∀ x ∈ l, x.length ≤ 63) (h3 : (wires l).length ≤ 254) : ok l := by
  refine ⟨fun s hs => ⟨?_, h2 s hs⟩, by rw [names_len]; omega⟩
  rcases Nat.eq_zero_or_pos s.length with h | h
  · exact absurd (List.eq_nil_of_length_eq_zero h ▸ hs) h1
  · exact h
end Lab
theorem u8_fit {z : Int} (h : 0 ≤ z ∧ z ≤ 255) : IntKind.u8.wrap z = z := IntWalk.u8_in _ h
set_option maxHeartbeats 4000000 in
set_option maxRecDepth 20000 in
theorem rjoinl_any (l : List (List UInt8)) (A : Option Addr) (n c B : Nat) (w : World) (h : Rd w B 1 A n (Tt l)) (hB : B ≤ w.heap.size) (hn : n ≤ 1000000) (hl : ∀ x ∈ l, x.length ≤ 1000000) :
    Calls Tryz.prog 59 #[.slice A n c] w (TxE (Lab.join l).1 (Lab.join l).2 w) := by
  have hlen : l.length = n := by have h1 := h.len1; rwa [Tt_len] at h1
  have HL := Lib.hid hlen
  have HS := Lib.hid hl
  clear hlen hl
  go_enter Tryz.func59, Tryz.ntmps59
  go_wp2
  go_loop [4] (fun i => ∃ k : Nat, k ≤ n ∧ i = .int .i64 (k : Int) ∧ Hid (¬ [] ∈ l.take k)) (fun i => n - (intOf i).toNat)
  case atStart => exact ⟨0, by omega, rfl, Lib.hid (by simp)⟩
  case round =>
    obtain ⟨k, hk, rfl, HNO⟩ := hrel
    have hk0 : (0 : Int) ≤ (k : Int) := by omega
    by_cases hlt : k < n
    · obtain ⟨bk, ok', x, rfl, hbk, hx, hc⟩ := h.atT hlt
      have HX := Lib.hid hx
      clear hx
      by_cases hx0 : x = []
      · have CN := Lib.hid (Lab.join_nil (k := k) (by rw [HX.out, hx0]))
        have q : (strB x == (⟨#[]⟩ : ByteArray)) = true := by rw [hx0]; rfl
        have q2 : x.isEmpty = true := by rw [hx0]; rfl
        clear hx0
        go_wp2
        go_ret2
        exact ⟨by rw [CN.out]; rfl, Below.refl _ _⟩
      · have q : (strB x == (⟨#[]⟩ : ByteArray)) = false := by have h1 := strB_beq x []; rw [decide_eq_false hx0] at h1; exact h1
        have q2 : x.isEmpty = false := by cases x with | nil => exact absurd rfl hx0 | cons a b => rfl
        have HN2 : Hid (¬ [] ∈ l.take (k + 1)) := Lib.hid (by
          rw [take_len HX.out]
          intro hm
          rcases List.mem_append.1 hm with hm | hm
          · exact HNO.out hm
          · exact hx0 (List.mem_singleton.1 hm).symm)
        clear hx0
        go_wp2
        go_round
        case rel => exact ⟨k + 1, by omega, by go_num, HN2⟩
        case measure => simp [intOf]; omega
    · have hkk : ¬ (k : Int) < (n : Int) := by omega
      have HNE : Hid (¬ [] ∈ l) := Lib.hid (by have h1 := HNO.out; rwa [List.take_of_length_le (by have := HL.out; omega)] at h1)
      clear HNO
      go_wp2
      go_loopw [5, 6] (fun o i wr => ∃ k : Nat, k ≤ n ∧ i = .int .i64 (k : Int) ∧ o = .string (strB (Lab.wires (l.take k))) ∧ Hid (∀ x ∈ l.take k, x.length ≤ 63) ∧ Hid ((Lab.wires (l.take k)).length ≤ 400) ∧ Below w.heap.size w wr) (fun _ i _ => n - (intOf i).toNat)
      case atStart => exact ⟨0, by omega, rfl, rfl, Lib.hid (by simp), Lib.hid (by simp [Lab.wires]), Below.refl _ _⟩
      case round =>
        obtain ⟨k, hk, rfl, rfl, HF, HW, bl⟩ := hrel
        have hk0 : (0 : Int) ≤ (k : Int) := by omega
        obtain ⟨t, ht⟩ : ∃ t, Lab.wires (l.take k) = t := ⟨_, rfl⟩
        rw [ht] at HW ⊢
        have HT := Lib.hid ht
        clear ht
        have hts : (strB t).size = t.length := strB_sz t
        have htl := HW.out
        have hts2 : (strB t).size ≤ 400 := by omega
        have HTS := Lib.hid hts
        clear hts
        have R := h.below (bl.mono hB)
        by_cases hlt2 : k < n
        · obtain ⟨bk, ok', x, rfl, hbk, hx, hc⟩ := R.atT hlt2
          have HX := Lib.hid hx
          have hxs : (strB x).size = x.length := strB_sz x
          have hxm := HS.out x (List.mem_of_getElem? hx)
          have hxs2 : (strB x).size ≤ 1000000 := by omega
          have HXS := Lib.hid hxs
          clear hx hxs
          by_cases h63 : 63 < (strB x).size
          · have CN := Lib.hid (Lab.join_no HNE.out (Lab.long_no HX.out (by have := HXS.out; omega)))
            go_wp2
            go_ret2
            exact ⟨by rw [CN.out]; rfl, bl⟩
          by_cases h255 : 255 < (strB t).size
          · have CN := Lib.hid (Lab.join_no HNE.out (Lab.much_no (k := k) (by rw [HT.out]; have := HTS.out; omega)))
            go_wp2
            go_ret2
            exact ⟨by rw [CN.out]; rfl, bl⟩
          have hx63 : x.length ≤ 63 := by have := HXS.out; omega
          have cz : IntKind.u8.wrap (((strB x).size : Nat) : Int) = (((strB x).size : Nat) : Int) := u8_fit (by omega)
          obtain ⟨bb, hbb⟩ : ∃ bb, UInt8.ofNat x.length = bb := ⟨_, rfl⟩
          have ez : U [bb] = [.int .u8 (((strB x).size : Nat) : Int)] := by
            show [Value.int .u8 (bb.toNat : Int)] = _
            rw [← hbb, Lab.ofNat_len hx63, HXS.out]
          have E1 : ∀ w0 : World, (convert 58 9 (.slice (some ⟨w0.heap.size, 0, none⟩) 1 1)).run Tryz.prog (w0.alloc (.cells #[.int .u8 (((strB x).size : Nat) : Int)] 5)).drew = .ok (.string (strB [bb])) (w0.alloc (.cells #[.int .u8 (((strB x).size : Nat) : Int)] 5)).drew := fun w0 =>
            run_str 58 9 5 Tryz.underlying58 Tryz.underlying5 Tryz.underlying9 (l := [bb]) (B := w0.heap.size + 1) (by rw [ez]; exact (Rd.lit w0 #[.int .u8 (((strB x).size : Nat) : Int)] 5 1 1 rfl).drew)
          obtain ⟨t1, ht1⟩ : ∃ t1, t ++ [bb] = t1 := ⟨_, rfl⟩
          obtain ⟨t2, ht2⟩ : ∃ t2, t1 ++ x = t2 := ⟨_, rfl⟩
          have l1 : t1.length = t.length + 1 := by rw [← ht1]; simp
          have l2 : t2.length = t.length + 1 + x.length := by rw [← ht2, List.length_append, l1]
          have A1 : ∀ w, (Op.stringOp .add (strB t) (strB [bb])).run Tryz.prog w = .ok (.string (strB t1)) w := fun w => by rw [← ht1]; exact run_two (by simp; omega)
          have A2 : ∀ w, (Op.stringOp .add (strB t1) (strB x)).run Tryz.prog w = .ok (.string (strB t2)) w := fun w => by rw [← ht2]; exact run_two (by omega)
          have HT2 : Hid (Lab.wires (l.take (k + 1)) = t2) := Lib.hid (by
            rw [take_len HX.out, Lab.wires_app, HT.out, ← ht2, ← ht1, ← hbb]
            show t ++ (Lab.wire x ++ []) = _
            simp [Lab.wire])
          have HF2 : Hid (∀ y ∈ l.take (k + 1), y.length ≤ 63) := Lib.hid (by
            rw [take_len HX.out]
            intro y hy
            rcases List.mem_append.1 hy with hy | hy
            · exact HF.out y hy
            · obtain rfl := List.mem_singleton.1 hy; exact hx63)
          have HW2 : Hid (t2.length ≤ 400) := Lib.hid (by have := HTS.out; omega)
          have bl2 := (bl.alloc bl.size (.cells #[.int .u8 (((strB x).size : Nat) : Int)] 5)).drew
          have hc2 : (wr.alloc (.cells #[.int .u8 (((strB x).size : Nat) : Int)] 5)).cell? ⟨bk, ok' + k, none⟩ = some (.string (strB x)) := by
            rw [World.cell?_alloc_lt wr _ ⟨bk, ok' + k, none⟩ (by show bk < _; have := bl.size; omega)]
            exact hc
          clear hbb ez ht1 ht2 l1 l2 hxm htl hx63 HF R
          go_wp2_with fail
          go_region
          go_wp2
          go_roundw
          case rel => exact ⟨k + 1, by omega, by go_num, by rw [HT2.out], HF2, by rw [HT2.out]; exact HW2, bl2⟩
          case measure => simp [intOf]; omega
        · have hkk2 : ¬ (k : Int) < (n : Int) := by omega
          have e1 : l.take k = l := List.take_of_length_le (by have := HL.out; omega)
          have HTN : Hid (Lab.wires l = t) := Lib.hid (by rw [← HT.out, e1])
          have HFN : Hid (∀ y ∈ l, y.length ≤ 63) := Lib.hid (by have h1 := HF.out; rwa [e1] at h1)
          clear e1
          by_cases h254 : 254 < (strB t).size
          · have CN := Lib.hid (Lab.join_no HNE.out (Lab.much_no (k := k) (by rw [HT.out]; have := HTS.out; omega)))
            go_wp2
            go_ret2
            exact ⟨by rw [CN.out]; rfl, bl⟩
          · have CN : Hid (Lab.join l = (t ++ [0], 0)) := Lib.hid (by rw [Lab.join_ok (Lab.ok_yes HNE.out HFN.out (by rw [HTN.out]; have := HTS.out; omega))]; unfold Lab.names; rw [HTN.out])
            have A3 : ∀ w, (Op.stringOp .add (strB t) ⟨#[0]⟩).run Tryz.prog w = .ok (.string (strB (t ++ [0]))) w := fun w => run_two (b := [0]) (by simp; omega)
            clear htl
            go_wp2
            go_ret2
            exact ⟨by rw [CN.out]; rfl, bl⟩
end Go.Proofs.YtmbfldcmiabccaaGreatDoor

namespace Go.Proofs.YtmbfldcmiabccaaGreatDoor
set_option linter.unusedVariables false
set_option linter.unusedSimpArgs false
open Go.RowKit
/-! ### Bytes of one's own, each of which may be written -/
def Lo (w : World) (b : Nat) (l : List UInt8) : Prop := b < w.heap.size ∧ ∀ j x, l[j]? = some x → w.cell? ⟨b, j, none⟩ = some (.int .u8 (x.toNat : Int)) ∧ w.frozen? ⟨b, j, none⟩ = false
theorem Lo.below {w w' : World} {b B : Nat} {l : List UInt8} (h : Lo w b l) (hb : Below B w w') (hB : b < B) : Lo w' b l := by
  refine ⟨Nat.lt_of_lt_of_le h.1 hb.size, fun j x hx => ?_⟩
  obtain ⟨h1, h2⟩ := h.2 j x hx
  refine ⟨(hb.cell (p := ⟨b, j, none⟩) hB).trans h1, ?_⟩
  rw [← h2]
  unfold World.frozen?
  rw [show w'.heap[(⟨b, j, none⟩ : Addr).block]? = w.heap[(⟨b, j, none⟩ : Addr).block]? from hb.block b hB]
theorem Lo.set {w : World} {b k : Nat} {l : List UInt8} (h : Lo w b l) (y : UInt8) : Lo (w.setCell ⟨b, k, none⟩ (.int .u8 (y.toNat : Int))) b (l.set k y) := by
  refine ⟨by simpa using h.1, fun j x hx => ?_⟩
  by_cases e : k = j
  · subst e
    have hk : k < l.length := by
      have h1 := (List.getElem?_eq_some_iff.1 hx).1
      rwa [List.length_set] at h1
    obtain rfl : y = x := by rw [List.getElem?_set_self hk] at hx; injection hx
    obtain ⟨h1, h2⟩ := h.2 k _ (List.getElem?_eq_getElem hk)
    exact ⟨World.cell?_setCell_same' w _ _ (by rw [h1]; rfl), by rw [World.frozen?_setCell]; exact h2⟩
  · rw [List.getElem?_set_ne e] at hx
    obtain ⟨h1, h2⟩ := h.2 j x hx
    exact ⟨(World.cell?_setCell_other w _ _ _ (by intro h3; injection h3 with _ h4; exact e h4)).trans h1, by rw [World.frozen?_setCell]; exact h2⟩
theorem Lo.rd {w : World} {b : Nat} {l : List UInt8} (h : Lo w b l) : Rd w w.heap.size 1 (some ⟨b, 0, none⟩) l.length (U l) := by
  refine ⟨by simp [U_length], fun _ => ⟨b, 0, rfl, h.1, fun j hj => ?_⟩⟩
  rw [U_length] at hj
  obtain ⟨x, hx⟩ : ∃ x, l[j]? = some x := ⟨_, List.getElem?_eq_getElem hj⟩
  rw [Nat.zero_add, (h.2 j x hx).1, U_get, hx]
  rfl
theorem Lo.new (w : World) (l : List UInt8) : Lo (w.drew.alloc (strO w (strB l))) w.heap.size l := by
  refine ⟨by simp, fun j x hx => ?_⟩
  have hj := (List.getElem?_eq_some_iff.1 hx).1
  have R := Rd.bytes w l
  obtain ⟨b, o, e, _, hc⟩ := R.at1 hj
  obtain ⟨rfl, rfl⟩ : w.heap.size = b ∧ 0 = o := by simpa using e
  have h1 := hc j hj
  rw [Nat.zero_add] at h1
  refine ⟨by rw [h1, U_get, hx]; rfl, ?_⟩
  have h2 := World.frozen?_alloc_mark w.drew (bytesRow (strB l) (strC w (strB l))) 5 (bytesRow (strB l) (strC w (strB l))).size ((bytesRow (strB l) (strC w (strB l))).size + 1) j
  have h3 : j < (bytesRow (strB l) (strC w (strB l))).size := by
    have h4 := bytesRow_at (strB l) (strC w (strB l)) j (by simpa [strB] using hj)
    exact (Array.getElem?_eq_some_iff.1 h4).1
  unfold strO
  rw [show w.heap.size = w.drew.heap.size from rfl, h2]
  simp
  omega
namespace Lab
theorem low_step {s : List UInt8} {k : Nat} {x : UInt8} (h : s[k]? = some x) : (low (s.take k) ++ s.drop k).set k (lowB x) = low (s.take (k + 1)) ++ s.drop (k + 1) := by
  have hk := (List.getElem?_eq_some_iff.1 h).1
  have hl : (low (s.take k)).length = k := by rw [low_len, List.length_take]; omega
  have hd : s.drop k = x :: s.drop (k + 1) := by
    rw [List.drop_eq_getElem_cons hk]
    congr 1
    have h1 := List.getElem?_eq_getElem hk
    rw [h] at h1
    injection h1 with h1
    exact h1.symm
  rw [List.set_append_right k _ (by omega), hl, Nat.sub_self, hd, List.set_cons_zero, take_more h]
  unfold low
  rw [List.map_append, List.append_assoc]
  rfl
theorem low_at {s : List UInt8} {k : Nat} {x : UInt8} (h : s[k]? = some x) : (low (s.take k) ++ s.drop k)[k]? = some x := by
  have hk := (List.getElem?_eq_some_iff.1 h).1
  have hl : (low (s.take k)).length = k := by rw [low_len, List.length_take]; omega
  rw [List.getElem?_append_right (by omega), hl, Nat.sub_self, List.getElem?_drop, Nat.add_zero]
  exact h
theorem low_mid_len (s : List UInt8) (k : Nat) : (low (s.take k) ++ s.drop k).length = s.length := by rw [List.length_append, low_len, List.length_take, List.length_drop]; omega
theorem lowB_no {c : UInt8} (h : ¬ (65 ≤ c.toNat ∧ c.toNat ≤ 90)) : lowB c = c := if_neg h
end Lab
theorem u8_of' {z : Int} (h : 0 ≤ z ∧ z ≤ 255) : IntKind.u8.wrap z = z := IntWalk.u8_in _ h
set_option maxHeartbeats 4000000 in
set_option maxRecDepth 20000 in
theorem rlower_any (s : List UInt8) (hs : s.length ≤ 100000) (w : World) : Calls Tryz.prog 67 #[.string (strB s)] w (TxO (Lab.lower s) w) := by
  obtain ⟨n, hn⟩ : ∃ n, s.length = n := ⟨_, rfl⟩
  have hsz : (strB s).size = n := by rw [strB_sz, hn]
  have HN := Lib.hid hn
  have hby := run_bytes w (strB s)
  rw [hsz] at hby
  have L0 : Lo (w.alloc (strO w (strB s))).drew w.heap.size s := Lo.new w s
  have b0 : Below w.heap.size w (w.alloc (strO w (strB s))).drew := ((Below.refl w.heap.size w).alloc (Nat.le_refl _) (strO w (strB s))).drew
  have hnm : n ≤ 100000 := by omega
  obtain ⟨cp, hcp⟩ : ∃ cp, strC w (strB s) = cp := ⟨_, rfl⟩
  rw [hcp] at hby
  clear hn hs hcp
  go_enter Tryz.func67, Tryz.ntmps67
  go_wp2
  generalize (w.alloc (strO w (strB s))).drew = w1 at *
  go_loopw [4] (fun i wr => ∃ k : Nat, k ≤ n ∧ i = .int .i64 (k : Int) ∧ Lo wr w.heap.size (Lab.low (s.take k) ++ s.drop k) ∧ Hid (k = 0 ∨ Lab.right s = true) ∧ Below w.heap.size w wr) (fun i _ => n - (intOf i).toNat)
  case atStart => exact ⟨0, by omega, rfl, by simpa [Lab.low] using L0, Lib.hid (Or.inl rfl), b0⟩
  case round =>
    clear L0 b0
    obtain ⟨k, hk, rfl, L, HR, bl⟩ := hrel
    have hk0 : (0 : Int) ≤ (k : Int) := by omega
    have stop : Hid (k = n ∨ Lab.right s = false) → Hid (Lab.low (s.take k) ++ s.drop k = Lab.lower s) := fun h => Lib.hid (by
      have hl := HN.out
      rcases HR.out with h0 | h0
      · subst h0
        rcases h.out with h1 | h1
        · have : s = [] := List.eq_nil_of_length_eq_zero (by omega)
          subst this
          unfold Lab.lower
          split <;> rfl
        · rw [Lab.lower_no h1]; simp [Lab.low]
      · rcases h.out with h1 | h1
        · unfold Lab.lower
          rw [if_pos h0, List.take_of_length_le (by omega), List.drop_of_length_le (by omega), List.append_nil]
        · rw [h0] at h1; cases h1)
    have ES : ∀ (t : List UInt8), Lab.low (s.take k) ++ s.drop k = t → ∀ wr', Lo wr' w.heap.size t → (convert 58 9 (.slice (some ⟨w.heap.size, 0, none⟩) n cp)).run Tryz.prog wr' = .ok (.string (strB t)) wr' := fun t ht wr' hL => by
      have hlen : t.length = n := by rw [← ht, Lab.low_mid_len, HN.out]
      have R := hL.rd
      rw [hlen] at R
      exact run_str 58 9 5 Tryz.underlying58 Tryz.underlying5 Tryz.underlying9 R
    by_cases hlt : k < n
    · obtain ⟨x, hx⟩ : ∃ x, s[k]? = some x := ⟨_, List.getElem?_eq_getElem (by rw [HN.out]; exact hlt)⟩
      have HX := Lib.hid hx
      clear hx
      have g3 : decide (k < n) = true := decide_eq_true hlt
      have g1 : decide ((k : Int) < (n : Int)) = true := decide_eq_true (by omega)
      cases hr : Lab.right s with
      | false =>
        have ST := stop (Lib.hid (Or.inr hr))
        have HRF := Lib.hid hr
        clear hr stop
        obtain ⟨t, ht⟩ : ∃ t, Lab.lower s = t := ⟨_, rfl⟩
        have HTT := Lib.hid ht
        rw [ht] at ST
        clear ht
        rw [ST.out] at L
        go_wp2_with fail
        have ct := rlright_any s (by rw [HN.out]; omega) wr
        rw [HRF.out] at ct
        refine ct.mono ?_
        rintro e w2 ⟨rfl, hb⟩
        replace L := L.below hb L.1
        replace bl := bl.trans (hb.mono bl.size)
        have E := ES t ST.out w2 L
        clear hb ES ct
        go_wp2
        go_ret
        exact ⟨by rw [HTT.out]; rfl, bl⟩
      | true =>
        have HRT := Lib.hid hr
        clear hr stop ES
        go_wp2_with fail
        have ct := rlright_any s (by rw [HN.out]; omega) wr
        rw [HRT.out] at ct
        refine ct.mono ?_
        rintro e w2 ⟨rfl, hb⟩
        replace L := L.below hb L.1
        replace bl := bl.trans (hb.mono bl.size)
        clear hb ct
        obtain ⟨c0, f0⟩ := L.2 k x (Lab.low_at HX.out)
        have HST := Lib.hid (Lab.low_step HX.out)
        obtain ⟨ci, hci⟩ : ∃ z : Int, (x.toNat : Int) = z := ⟨_, rfl⟩
        rw [hci] at c0
        have hx256 : x.toNat < 256 := x.toNat_lt
        by_cases hg : 65 ≤ x.toNat ∧ x.toNat ≤ 90
        · have t1 : decide (65 ≤ ci) = true := decide_eq_true (by omega)
          have t2 : decide (ci ≤ 90) = true := decide_eq_true (by omega)
          have e1 : ((Lab.lowB x).toNat : Int) = ci + 32 := by rw [Lab.lowB_nat, if_pos hg]; omega
          have L2 := L.set (k := k) (Lab.lowB x)
          rw [HST.out, e1] at L2
          have u1 : IntKind.u8.wrap (ci + 32) = ci + 32 := u8_of' (by omega)
          have b2 := below_set (o := k) bl (Nat.le_refl _) (.int .u8 (ci + 32))
          clear hg hci e1 hx256 L bl
          go_wp2
          go_roundw
          case rel => exact ⟨k + 1, by omega, by go_num, L2, Lib.hid (Or.inr (by first | trivial | exact HRT.out)), b2⟩
          case measure => simp [intOf]; omega
        · have e1 := Lab.lowB_no hg
          have L2 : Lo w2 w.heap.size (Lab.low (s.take (k + 1)) ++ s.drop (k + 1)) := by
            rw [← HST.out, e1]
            have h1 := Lab.low_at HX.out
            have h2 : (Lab.low (s.take k) ++ s.drop k).set k x = Lab.low (s.take k) ++ s.drop k := by
              refine List.ext_getElem? fun j => ?_
              by_cases e : k = j
              · subst e; rw [List.getElem?_set_self (List.getElem?_eq_some_iff.1 h1).1, h1]
              · rw [List.getElem?_set_ne e]
            rw [h2]
            exact L
          by_cases ha : 65 ≤ x.toNat
          · have t1 : decide (65 ≤ ci) = true := decide_eq_true (by omega)
            have t2 : decide (ci ≤ 90) = false := decide_eq_false (by omega)
            clear hg hci e1 hx256 ha L
            go_wp2
            go_roundw
            case rel => exact ⟨k + 1, by omega, by go_num, L2, Lib.hid (Or.inr (by first | trivial | exact HRT.out)), bl⟩
            case measure => simp [intOf]; omega
          · have t1 : decide (65 ≤ ci) = false := decide_eq_false (by omega)
            clear hg hci e1 hx256 ha L
            go_wp2
            go_roundw
            case rel => exact ⟨k + 1, by omega, by go_num, L2, Lib.hid (Or.inr (by first | trivial | exact HRT.out)), bl⟩
            case measure => simp [intOf]; omega
    · have hkn : k = n := by omega
      have ST := stop (Lib.hid (Or.inl hkn))
      have g3 : decide (k < n) = false := decide_eq_false hlt
      have g1 : decide ((k : Int) < (n : Int)) = false := decide_eq_false (by omega)
      obtain ⟨t, ht⟩ : ∃ t, Lab.lower s = t := ⟨_, rfl⟩
      have HTT := Lib.hid ht
      rw [ht] at ST
      clear ht
      rw [ST.out] at L
      have E := ES t ST.out wr L
      clear stop ES hkn hlt
      go_wp2
      go_ret
      exact ⟨by rw [HTT.out]; rfl, bl⟩
end Go.Proofs.YtmbfldcmiabccaaGreatDoor

namespace Go.Proofs.YtmbfldcmiabccaaGreatDoor
set_option linter.unusedVariables false
set_option linter.unusedSimpArgs false
open Go.RowKit
theorem rlright_at {s : List UInt8} {z : Bool} (e : Lab.right s = z) (hs : s.length ≤ 100000) (w : World) : Calls Tryz.prog 57 #[.string (strB s)] w (BoB z w) := by have h := rlright_any s (by omega) w; rw [e] at h; exact h
theorem rlower_at {s t : List UInt8} (e : Lab.lower s = t) (hs : s.length ≤ 100000) (w : World) : Calls Tryz.prog 67 #[.string (strB s)] w (TxO t w) := by have h := rlower_any s hs w; rw [e] at h; exact h
set_option maxHeartbeats 2000000 in
theorem rsamel_any (a b : List UInt8) (ha : a.length ≤ 100000) (hb : b.length ≤ 100000) (w : World) : Calls Tryz.prog 37 #[.string (strB a), .string (strB b)] w (BoB (Lab.same a b) w) := by
  obtain ⟨za, hza⟩ : ∃ z, Lab.right a = z := ⟨_, rfl⟩
  obtain ⟨zb, hzb⟩ : ∃ z, Lab.right b = z := ⟨_, rfl⟩
  obtain ⟨ta, hta⟩ : ∃ z, Lab.lower a = z := ⟨_, rfl⟩
  obtain ⟨tb, htb⟩ : ∃ z, Lab.lower b = z := ⟨_, rfl⟩
  have EZ : Hid (Lab.same a b = (za && zb && decide (ta = tb))) := Lib.hid (by unfold Lab.same; rw [hza, hzb, hta, htb])
  obtain ⟨z, hz⟩ : ∃ z, Lab.same a b = z := ⟨_, rfl⟩
  rw [hz] at EZ ⊢
  have HZA := Lib.hid hza
  have HZB := Lib.hid hzb
  have HTA := Lib.hid hta
  have HTB := Lib.hid htb
  have b0 := Below.refl w.heap.size w
  clear hz hza hzb hta htb
  cases za
  · have EZ2 : Hid (z = false) := Lib.hid (by rw [EZ.out]; rfl)
    clear EZ
    go_enter Tryz.func37, Tryz.ntmps37
    go_wp2_with fail
    refine (rlright_at HZA.out ha w).mono ?_
    rintro e w1 ⟨rfl, h1⟩
    replace b0 := b0.trans (h1.mono b0.size)
    clear h1
    go_wp2
    go_ret
    exact ⟨ret_bool EZ2.out.symm, b0⟩
  cases zb
  · have EZ2 : Hid (z = false) := Lib.hid (by rw [EZ.out]; rfl)
    clear EZ
    go_enter Tryz.func37, Tryz.ntmps37
    go_wp2_with fail
    refine (rlright_at HZA.out ha w).mono ?_
    rintro e w1 ⟨rfl, h1⟩
    replace b0 := b0.trans (h1.mono b0.size)
    clear h1
    go_wp2_with fail
    refine (rlright_at HZB.out hb w1).mono ?_
    rintro e w2 ⟨rfl, h1⟩
    replace b0 := b0.trans (h1.mono b0.size)
    clear h1
    go_wp2
    go_ret
    exact ⟨ret_bool EZ2.out.symm, b0⟩
  have EZ2 : Hid ((strB ta == strB tb) = z) := Lib.hid (by rw [EZ.out, strB_beq]; simp)
  have EZ3 : Hid ((ta == tb) = z) := Lib.hid (by rw [EZ.out]; by_cases h : ta = tb <;> simp [h])
  clear EZ
  go_enter Tryz.func37, Tryz.ntmps37
  go_wp2_with fail
  refine (rlright_at HZA.out ha w).mono ?_
  rintro e w1 ⟨rfl, h1⟩
  replace b0 := b0.trans (h1.mono b0.size)
  clear h1
  go_wp2_with fail
  refine (rlright_at HZB.out hb w1).mono ?_
  rintro e w2 ⟨rfl, h1⟩
  replace b0 := b0.trans (h1.mono b0.size)
  clear h1
  go_wp2_with fail
  refine (rlower_at HTA.out ha w2).mono ?_
  rintro e w3 ⟨rfl, h1⟩
  replace b0 := b0.trans (h1.mono b0.size)
  clear h1
  go_wp2_with fail
  refine (rlower_at HTB.out hb w3).mono ?_
  rintro e w4 ⟨rfl, h1⟩
  replace b0 := b0.trans (h1.mono b0.size)
  clear h1
  have e1 := EZ2.out
  have e2 := EZ3.out
  go_wp2
  go_ret
  exact ⟨ret_bool (by first | exact e1 | exact e2 | simp_all), b0⟩
theorem rsamel_at {a b : List UInt8} {z : Bool} (e : Lab.same a b = z) (ha : a.length ≤ 100000) (hb : b.length ≤ 100000) (w : World) : Calls Tryz.prog 37 #[.string (strB a), .string (strB b)] w (BoB z w) := by have h := rsamel_any a b ha hb w; rw [e] at h; exact h
namespace Lab
theorem ok_count : ∀ {l : List (List UInt8)}, (∀ s ∈ l, okL s) → l.length ≤ (wires l).length
  | [], _ => Nat.zero_le _
  | s :: l, h => by
    have h1 := ok_count (l := l) fun x hx => h x (by simp [hx])
    rw [wires_cons, List.length_append]
    simp only [wire, List.length_cons]
    omega
theorem ok_few {l : List (List UInt8)} (h : ok l) : l.length ≤ 254 := by
  have h1 := ok_count h.1
  have h2 := h.2
  rw [names_len] at h2
  omega
end Lab
end Go.Proofs.YtmbfldcmiabccaaGreatDoor

namespace Go.Proofs.YtmbfldcmiabccaaGreatDoor
set_option linter.unusedVariables false
set_option linter.unusedSimpArgs false
open Go.RowKit
theorem litT (w : World) : (w.alloc (.cells #[] 9)).ownsRow w.heap.size 9 1 (.slice (some ⟨w.heap.size, 0, none⟩) 0 0) 0 [] := by
  have := World.ownsRow_lit (base := w.heap.size) (e := 9) (size := 1) w #[] 0 (Nat.le_refl _) (by decide) rfl
  simpa using this
theorem labels_few' (s : List UInt8) : (Lab.labels s).length ≤ 254 := by
  cases hc : Lab.cut s with
  | none => unfold Lab.labels; rw [hc]; simp
  | some l => unfold Lab.labels; rw [hc]; exact Lab.ok_few (Lab.cut_some hc).1
theorem labels_short (s : List UInt8) : ∀ x ∈ Lab.labels s, x.length ≤ 63 := by
  intro x hx
  cases hc : Lab.cut s with
  | none => unfold Lab.labels at hx; rw [hc] at hx; simp at hx
  | some l => unfold Lab.labels at hx; rw [hc] at hx; exact ((Lab.cut_some hc).1.1 x hx).2
/-- a text and whether it is one -/
def TxB (s : List UInt8) (b : Bool) (w : World) (e : Ending) (w' : World) : Prop := e = .returned (.tuple #[.string (strB s), .bool b]) ∧ Below w.heap.size w w'
theorem ahead_no {dom : List UInt8} (h : Lab.right dom = false) (ls : List (List UInt8)) : Zo.ahead dom ls = ([], false) := by unfold Zo.ahead; rw [if_neg (by rw [h]; simp)]
theorem ahead_yes {dom t : List UInt8} {er : Int} (h : Lab.right dom = true) {ls : List (List UInt8)} (hj : Lab.join (ls ++ Lab.labels dom) = (t, er)) : Zo.ahead dom ls = (t, er == 0) := by unfold Zo.ahead; rw [if_pos h, hj]; rfl
set_option maxHeartbeats 4000000 in
theorem roahead_any (v0 v1 : Value) (h0 : v0.oneCell' = true) (h1 : v1.oneCell' = true) (dom : List UInt8) (ls : List (List UInt8)) (L : Option Addr) (nl cl : Nat) (w : World) (hL : Rd w w.heap.size 1 L nl (Tt ls)) (hn : nl ≤ 4) (hls : ∀ x ∈ ls, x.length ≤ 1000) (hd : dom.length ≤ 1000) :
    Calls Tryz.prog 24 #[.agg #[v0, v1, .string (strB dom)], .slice L nl cl] w (TxB (Zo.ahead dom ls).1 (Zo.ahead dom ls).2 w) := by
  have HL := Lib.hid hls
  have hll : ls.length = nl := by have h1 := hL.len1; rwa [Tt_len] at h1
  have HN := Lib.hid hll
  clear hls hll
  have X := Box.new w #[v0, v1, .string (strB dom)] 25
  have bw := (Below.refl w.heap.size w).alloc (Nat.le_refl _) (.cells #[v0, v1, .string (strB dom)] 25)
  have hsz : (w.alloc (.cells #[v0, v1, .string (strB dom)] 25)).heap.size = w.heap.size + 1 := by simp
  go_enter Tryz.func24, Tryz.ntmps24
  go_upto_region 1 with fail
  have x2 := X.at 2 rfl
  generalize (w.alloc (.cells #[v0, v1, .string (strB dom)] 25)) = w0 at *
  obtain ⟨r, er⟩ : ∃ z, Lab.right dom = z := ⟨_, rfl⟩
  have C1 := rlright_any dom (by omega) w0
  rw [er] at C1
  have ER := Lib.hid er
  clear er
  go_wp2_with fail
  refine C1.mono ?_
  clear C1
  rintro e w1 ⟨rfl, hb1⟩
  have X1 := X.below hb1 (by omega)
  have x2 := X1.at 2 rfl
  have b1 : Below w.heap.size w w1 := bw.trans (hb1.mono (by omega))
  have hs1 : w.heap.size < w1.heap.size := by have := hb1.size; omega
  cases r
  · have A := Lib.hid (ahead_no ER.out ls)
    go_wp2
    go_ret2
    exact ⟨by rw [A.out]; rfl, b1⟩
  · obtain ⟨⟨t, jr⟩, ej⟩ : ∃ z, Lab.join (ls ++ Lab.labels dom) = z := ⟨_, rfl⟩
    have A := Lib.hid (ahead_yes ER.out ej)
    have EJ := Lib.hid ej
    have FW := Lib.hid (labels_few' dom)
    have SH := Lib.hid (labels_short dom)
    have hL1 := Rd.belowH hL b1
    clear ej hL
    have C2 : Hid (∀ W, Calls Tryz.prog 58 #[.string (strB dom)] W (LabR (Lab.labels dom) W)) := Lib.hid (fun W => rlabels_any dom (by omega) W)
    obtain ⟨ld, eld⟩ : ∃ z, Lab.labels dom = z := ⟨_, rfl⟩
    rw [eld] at C2 FW SH EJ
    clear eld
    have hsl : (w1.alloc (.cells #[] 9)).heap.size = w1.heap.size + 1 := by simp
    have bl := (Below.refl w1.heap.size w1).alloc (Nat.le_refl _) (.cells #[] 9)
    go_wp2
    refine wp_region_held_drew (S := (fun w' => w'.cell? ⟨w.heap.size, 2, none⟩ = some (.string (strB dom)))) (by kernel_rfl) (by exact x2) (fun hHeld0 => ?_)
    refine tk 1 14 rfl hHeld0 ?_
    refine tk 3 16 rfl hHeld0 ?_
    refine tk 4 17 rfl hHeld0 ?_
    refine wpAnyH_ready (rs := [0]) (by kernel_rfl) (by simp) (AllReadyH.cons (o := ⟨some 13, _, _, _, _, _⟩) rfl (fun K hK => ?_) AllReadyH.nil)
    go_simp
    (have XA := X1.drew.alloc (.cells #[] 9); replace x2 := XA.at 2 rfl)
    go_simp
    refine hK.out _ _ (by exact x2) (fun hHeld1 => ?_)
    clear hK hHeld0 K
    try simp only [Act.put, sA, sB, sC]
    refine wpAnyH_ready (rs := [2]) (by kernel_rfl) (by simp) (AllReadyH.cons (o := ⟨some 15, _, _, _, _, _⟩) rfl (fun K hK => ?_) AllReadyH.nil)
    (refine step_app_law strT rfl (.tmp 13) (.tmp 14) rfl w1.heap.size (by rfl) (by exact litT w1) (by rfl) (by exact (Rd.belowH hL1 bl.drew)) (Tt_one ls) (by omega) (by omega) (by show _ ≤ (w1.alloc (.cells #[] 9)).heap.size; omega) ?_; rintro A2 c2 w2 ⟨hown2, hg2, _, _⟩; rw [Nat.zero_add, List.nil_append] at hown2; have b2 : Below w1.heap.size w1 w2 := below_app bl.drew (litT w1).drew hg2 (Nat.le_refl _) (by show _ ≤ (w1.alloc (.cells #[] 9)).heap.size; omega); have X2 := X1.below b2 hs1; replace x2 := X2.at 2 rfl)
    go_simp
    refine hK.out _ _ (by exact x2) (fun hHeld2 => ?_)
    clear hK hHeld1 K
    try simp only [Act.put, sA, sB, sC]
    refine wpAnyH_ready (rs := [5]) (by kernel_rfl) (by simp) (AllReadyH.cons (o := ⟨some 18, _, _, _, _, _⟩) rfl (fun K hK => ?_) AllReadyH.nil)
    go_simp
    (refine (C2.out w2).mono ?_; rintro e w3 ⟨⟨A3, n3, c3, rfl, hn3, h3, _⟩, hb3⟩; subst hn3; have b3 := b2.trans (hb3.mono b2.size); have hown3 := own_belowY hown2 hb3; have X3 := X1.below b3 hs1; replace x2 := X3.at 2 rfl)
    go_simp
    refine hK.out _ _ (by exact x2) (fun hHeld3 => ?_)
    clear hK hHeld2 K
    try simp only [Act.put, sA, sB, sC]
    refine wpAnyH_ready (rs := [6]) (by kernel_rfl) (by simp) (AllReadyH.cons (o := ⟨some 19, _, _, _, _, _⟩) rfl (fun K hK => ?_) AllReadyH.nil)
    (refine step_app_law strT rfl (.tmp 15) (.tmp 18) rfl w1.heap.size (by rfl) hown3 (by rfl) h3 (Tt_one ld) (by have := FW.out; omega) (by have := FW.out; omega) b3.size ?_; rintro A4 c4 w4 ⟨hown4, hg4, _, _⟩; have b4 : Below w1.heap.size w1 w4 := below_app b3 hown3 hg4 (Nat.le_refl _) b3.size; have X4 := X1.below b4 hs1; replace x2 := X4.at 2 rfl)
    go_simp
    refine hK.out _ _ (by exact x2) (fun hHeld4 => ?_)
    clear hK hHeld3 K
    try simp only [Act.put, sA, sB, sC]
    refine tk 7 6 rfl hHeld4 ?_
    refine wpAnyH_done (by kernel_rfl) ?_ _
    have R4 := Rd.of_own hown4
    rw [← Tt_app] at R4
    have J := rjoinl_any (ls ++ ld) A4 (nl + ld.length) c4 _ w4 R4 (Nat.le_refl _) (by have := FW.out; omega) (fun x hx => (List.mem_append.1 hx).elim (fun hx => by have := HL.out x hx; omega) (fun hx => by have := SH.out x hx; omega))
    rw [EJ.out] at J
    clear R4
    go_wp2_with fail
    refine J.mono ?_
    clear J
    rintro e w5 ⟨rfl, hb5⟩
    go_wp2
    go_ret2
    exact ⟨by rw [A.out]; rfl, (b1.trans (b4.mono (by omega))).trans (hb5.mono (by have := b4.size; omega))⟩
end Go.Proofs.YtmbfldcmiabccaaGreatDoor

namespace Go.Proofs.YtmbfldcmiabccaaGreatDoor
set_option linter.unusedVariables false
set_option linter.unusedSimpArgs false
open Go.RowKit
theorem hostN_no {dom : List UInt8} {n : Int} (h : n < 0 ∨ 7 < n) : Zo.hostN dom n = ([], false) := by unfold Zo.hostN; rw [if_pos h]
theorem hostN_in {dom : List UInt8} {n : Int} (h : ¬ (n < 0 ∨ 7 < n)) : Zo.hostN dom n = Zo.ahead dom [Zo.hostL n] := by unfold Zo.hostN; rw [if_neg h]
theorem host_dig {n : Int} (h0 : 0 ≤ n) (h7 : n ≤ 7) : IntKind.u8.wrap (48 + n) = ((UInt8.ofNat (48 + n.toNat)).toNat : Int) := by
  rw [u8_fit (by omega), UInt8.toNat_ofNat']
  omega
set_option maxHeartbeats 4000000 in
set_option maxRecDepth 20000 in
theorem rohost_any (A B : Option Addr) (n c m d : Nat) (dom : List UInt8) (node : Int) (w : World) (hd : dom.length ≤ 1000) :
    Calls Tryz.prog 8 #[.agg #[.slice A n c, .slice B m d, .string (strB dom)], .int .i64 node] w (TxB (Zo.hostN dom node).1 (Zo.hostN dom node).2 w) := by
  have X := Box.new w #[.slice A n c, .slice B m d, .string (strB dom)] 25
  have bw := (Below.refl w.heap.size w).alloc (Nat.le_refl _) (.cells #[.slice A n c, .slice B m d, .string (strB dom)] 25)
  have hsz : (w.alloc (.cells #[.slice A n c, .slice B m d, .string (strB dom)] 25)).heap.size = w.heap.size + 1 := by simp
  go_enter Tryz.func8, Tryz.ntmps8
  go_upto_region 1 with fail
  have x0 := X.at 0 rfl
  have x1 := X.at 1 rfl
  have x2 := X.at 2 rfl
  generalize (w.alloc (.cells #[.slice A n c, .slice B m d, .string (strB dom)] 25)) = w0 at *
  by_cases h0 : node < 0
  · have E := Lib.hid (hostN_no (dom := dom) (Or.inl h0))
    have t0 : decide (node < 0) = true := decide_eq_true h0
    clear h0
    go_wp2
    go_ret2
    exact ⟨by rw [E.out]; rfl, bw⟩
  by_cases h7 : 7 < node
  · have E := Lib.hid (hostN_no (dom := dom) (Or.inr h7))
    have t0 : decide (node < 0) = false := decide_eq_false h0
    have t7 : decide (7 < node) = true := decide_eq_true h7
    clear h0 h7
    go_wp2
    go_ret2
    exact ⟨by rw [E.out]; rfl, bw⟩
  have E := Lib.hid (hostN_in (dom := dom) (n := node) (by omega))
  have t0 : decide (node < 0) = false := decide_eq_false h0
  have t7 : decide (7 < node) = false := decide_eq_false h7
  obtain ⟨b, hb⟩ : ∃ b, UInt8.ofNat (48 + node.toNat) = b := ⟨_, rfl⟩
  have hw : wrap64 (48 + node) = 48 + node := (by unfold wrap64; omega)
  have hg : IntKind.u8.wrap (48 + node) = (b.toNat : Int) := by rw [← hb]; exact host_dig (by omega) (by omega)
  obtain ⟨z, hz⟩ : ∃ z : Int, (b.toNat : Int) = z := ⟨_, rfl⟩
  rw [hz] at hg
  have HL : Hid (Zo.hostL node = [110, b]) := Lib.hid (by unfold Zo.hostL; rw [hb])
  have ez : U [b] = [.int .u8 z] := by rw [← hz]; rfl
  have E1 : (convert 58 9 (.slice (some ⟨w0.heap.size, 0, none⟩) 1 1)).run Tryz.prog (w0.alloc (.cells #[.int .u8 z] 5)) = .ok (.string (strB [b])) (w0.alloc (.cells #[.int .u8 z] 5)) :=
    run_str 58 9 5 Tryz.underlying58 Tryz.underlying5 Tryz.underlying9 (l := [b]) (B := w0.heap.size + 1) (by rw [ez]; exact (Rd.lit w0 #[.int .u8 z] 5 1 1 rfl))
  have A1 : ∀ w, (Op.stringOp .add (strB [110]) (strB [b])).run Tryz.prog w = .ok (.string (strB [110, b])) w := fun w => run_two (a := [110]) (b := [b]) (by simp)
  have A2 : ∀ w, (Op.stringOp .add ⟨#[110]⟩ (strB [b])).run Tryz.prog w = .ok (.string (strB [110, b])) w := A1
  have b1 := bw.alloc (by rw [hsz]; omega) (.cells #[.int .u8 z] 5)
  clear hb hz ez h0 h7 hsz
  have b2 := b1.alloc b1.size (.cells #[.string (strB [110, b])] 9)
  have R := Rd.lit (w0.alloc (.cells #[.int .u8 z] 5)) #[.string (strB [110, b])] 9 1 1 rfl
  rw [World.size_alloc] at R
  have R2 : Rd _ ((w0.alloc (.cells #[.int .u8 z] 5)).alloc (.cells #[.string (strB [110, b])] 9)).heap.size 1 (some ⟨w0.heap.size + 1, 0, none⟩) 1 (Tt [[110, b]]) := R.more (by simp)
  have C := roahead_any (.slice A n c) (.slice B m d) rfl rfl dom [[110, b]] _ 1 1 _ R2 (by omega) (by intro x hx; rw [List.mem_singleton.1 hx]; simp) hd
  rw [← show Zo.hostN dom node = Zo.ahead dom [[110, b]] by rw [E.out, HL.out]] at C
  obtain ⟨⟨tt, ok⟩, et⟩ : ∃ t, Zo.hostN dom node = t := ⟨_, rfl⟩
  rw [et] at C
  have ET := Lib.hid et
  clear R R2 et E
  go_wp2_with fail
  refine C.mono ?_
  rintro e w5 ⟨rfl, hb5⟩
  go_wp2
  go_ret2
  exact ⟨by rw [ET.out]; rfl, b2.trans (hb5.mono b2.size)⟩
end Go.Proofs.YtmbfldcmiabccaaGreatDoor

namespace Go.Proofs.YtmbfldcmiabccaaGreatDoor
set_option linter.unusedVariables false
set_option linter.unusedSimpArgs false
open Go.RowKit
theorem ahead_short (dom : List UInt8) (ls : List (List UInt8)) : (Zo.ahead dom ls).1.length ≤ 255 := by
  unfold Zo.ahead
  split
  · show (Lab.join _).1.length ≤ 255
    unfold Lab.join
    split
    · simp
    · split
      · rename_i h; exact h.2
      · simp
  · simp
theorem hostN_short (dom : List UInt8) (n : Int) : (Zo.hostN dom n).1.length ≤ 255 := by
  unfold Zo.hostN
  split
  · simp
  · exact ahead_short _ _
theorem host_found {s : Scn} {name : List UInt8} {cs : List Int} (hc : Zo.counts s = cs) {k : Nat} {x : Int} (hx : cs[k]? = some x) (hno : ∀ y ∈ cs.take k, Zo.hostIs s.dom name y = false) (h : Zo.hostIs s.dom name x = true) : Zo.host s name = x := by
  unfold Zo.host
  rw [hc, ← List.take_append_drop k cs, List.find?_append, List.find?_eq_none.2 fun y hy => by rw [hno y hy]; simp]
  rw [List.drop_eq_getElem?_toList_append, hx]
  simp [h]
theorem cnts_few (al : List Int) (l : List Nm) : (Zo.cnts al l).length ≤ l.length := by unfold Zo.cnts; rw [List.length_map]; exact List.length_filter_le _ _
set_option maxHeartbeats 4000000 in
set_option maxRecDepth 20000 in
theorem rohostof_any (s : Sn) (name : List UInt8) (w : World) (h : SnRd w s) (hf : SnFit s) (hd : s.dom.length ≤ 1000) (hn : name.length ≤ 100000) :
    Calls Tryz.prog 38 #[snval s, .string (strB name)] w fun e w' => e = .returned (.int .i64 (Zo.host s.sc name)) ∧ Below w.heap.size w w' := by
  have X := Box.new w (sncs s) 25
  have bw := (Below.refl w.heap.size w).alloc (Nat.le_refl _) (.cells (sncs s) 25)
  have hsz : (w.alloc (.cells (sncs s) 25)).heap.size = w.heap.size + 1 := by simp
  have C := rocounts_any s (w.alloc (.cells (sncs s) 25)) (h.alloc _) hf
  obtain ⟨cs, ecs⟩ : ∃ z, Zo.counts s.sc = z := ⟨_, rfl⟩
  have hfew : cs.length ≤ 1000 := by
    have h1 := cnts_few s.al s.v.view
    have h2 := h.1.viewlen
    have h3 := hf.1
    rw [← ecs, Zo.counts_cnts]
    show (Zo.cnts s.al s.v.view).length ≤ 1000
    omega
  rw [ecs] at C
  have EC := Lib.hid ecs
  clear ecs h hf
  have NF : Hid (∀ {k : Nat} {x : Int}, cs[k]? = some x → (∀ y ∈ cs.take k, Zo.hostIs s.dom name y = false) → Zo.hostIs s.dom name x = true → Zo.host s.sc name = x) := Lib.hid fun hx hno ht => host_found EC.out hx hno ht
  have NN : Hid ((∀ y ∈ cs, Zo.hostIs s.dom name y = false) → Zo.host s.sc name = -1) := Lib.hid fun hno => Zo.host_none (by rw [EC.out]; exact hno)
  obtain ⟨hh, ehh⟩ : ∃ z, Zo.host s.sc name = z := ⟨_, rfl⟩
  rw [ehh] at NF NN
  have EHH := Lib.hid ehh
  clear ehh EC
  obtain ⟨⟨l, A, n, c⟩, al, B, m, d, dom⟩ := s
  simp only [snval, sncs] at *
  go_enter Tryz.func38, Tryz.ntmps38
  go_upto_region 1 with fail
  have x0 := X.at 0 rfl
  have x1 := X.at 1 rfl
  have x2 := X.at 2 rfl
  generalize (w.alloc (.cells #[.slice A n c, .slice B m d, .string (strB dom)] 25)) = w0 at *
  have hlt0 : w.heap.size < w0.heap.size := by omega
  clear hsz
  go_wp2_with fail
  refine C.mono ?_
  clear C
  rintro e w1 ⟨A1, n1, c1, rfl, hl1, own1, hb1⟩
  have R1 := Rd.of_own own1
  have X1 := X.below hb1 hlt0
  have b1 : Below w.heap.size w w1 := bw.trans (hb1.mono (by omega))
  have hs1 : w.heap.size < w1.heap.size := by have := hb1.size; omega
  have hn1 : n1 ≤ 1000 := by omega
  have HL1 := Lib.hid hl1
  clear own1 hl1 x0 x1 x2
  go_wp2
  go_loopw [6] (fun i wr => ∃ k : Nat, k ≤ n1 ∧ i = .int .i64 (k : Int) ∧ Hid (∀ y ∈ cs.take k, Zo.hostIs dom name y = false) ∧ Below w1.heap.size w1 wr) (fun i _ => n1 - (intOf i).toNat)
  case atStart => exact ⟨0, Nat.zero_le _, rfl, Lib.hid (by simp), Below.refl _ _⟩
  case round =>
    obtain ⟨k, hk, rfl, HNO, b⟩ := hrel
    have X2 := X1.below b hs1
    have x0 := X2.at 0 rfl
    have x1 := X2.at 1 rfl
    have x2 := X2.at 2 rfl
    have bs := b.size
    have hs2 : w.heap.size < wr.heap.size := by omega
    by_cases hlt : k < n1
    · obtain ⟨bq, oq, y, rfl, hbq, hy, c0⟩ := (R1.belowH b).atI hlt
      have HY := Lib.hid hy
      have hk0 : (0 : Int) ≤ (k : Int) := by omega
      have hbr : bq < wr.heap.size := by omega
      obtain ⟨⟨t, ok⟩, et⟩ : ∃ z, Zo.hostN dom y = z := ⟨_, rfl⟩
      have hts : t.length ≤ 255 := by have h1 := hostN_short dom y; rw [et] at h1; exact h1
      have C1 : Hid (∀ W, Calls Tryz.prog 8 #[.agg #[.slice A n c, .slice B m d, .string (strB dom)], .int .i64 y] W (TxB t ok W)) := Lib.hid fun W => by
        have h1 := rohost_any A B n c m d dom y W hd
        rw [et] at h1
        exact h1
      have HT : Hid (Zo.hostIs dom name y = (ok && Lab.same t name)) := Lib.hid (by unfold Zo.hostIs; rw [et])
      clear hy et
      go_wp2
      refine wp_region_held_drew (S := (fun w' => (w'.cell? ⟨w.heap.size, 0, none⟩ = some (.slice A n c) ∧ w'.cell? ⟨w.heap.size, 1, none⟩ = some (.slice B m d) ∧ w'.cell? ⟨w.heap.size, 2, none⟩ = some (.string (strB dom))) ∧ w'.cell? ⟨bq, oq + k, none⟩ = some (.int .i64 y))) (by kernel_rfl) (by exact ⟨⟨x0, x1, x2⟩, c0⟩) (fun hHeld0 => ?_)
      refine tk 0 18 rfl hHeld0 ?_
      refine tk 1 19 rfl hHeld0 ?_
      refine tk 2 20 rfl hHeld0 ?_
      refine tk 3 21 rfl hHeld0 ?_
      refine tk 4 22 rfl hHeld0 ?_
      refine wpAnyH_ready (rs := [5]) (by kernel_rfl) (by simp) (AllReadyH.cons (o := ⟨some 23, _, _, _, _, _⟩) rfl (fun K hK => ?_) AllReadyH.nil)
      go_simp
      (refine (C1.out _).mono ?_; rintro e w2 ⟨rfl, hb2⟩; replace hb2 : Below wr.heap.size wr w2 := (Below.refl _ _).drew.trans hb2; have X3 := X2.below hb2 hs2; replace x0 := X3.at 0 rfl; replace x1 := X3.at 1 rfl; replace x2 := X3.at 2 rfl; replace c0 := (hb2.cell (p := ⟨bq, oq + k, none⟩) hbr).trans c0)
      go_simp
      refine hK.out _ _ (by exact ⟨⟨x0, x1, x2⟩, c0⟩) (fun hHeld1 => ?_)
      clear hK hHeld0 K
      try simp only [Act.put, sA, sB, sC]
      refine tk 6 17 rfl hHeld1 ?_
      refine tk 7 24 rfl hHeld1 ?_
      refine tk 8 25 rfl hHeld1 ?_
      refine tk 9 7 rfl hHeld1 ?_
      refine tk 10 8 rfl hHeld1 ?_
      refine wpAnyH_done (by kernel_rfl) ?_ _
      have b2 := b.trans (hb2.mono b.size)
      cases ok
      · have HN2 : Hid (∀ y ∈ cs.take (k + 1), Zo.hostIs dom name y = false) := Lib.hid (by
          rw [take_more HY.out]
          intro z hz
          rcases List.mem_append.1 hz with hz | hz
          · exact HNO.out z hz
          · rw [List.mem_singleton.1 hz, HT.out]; rfl)
        go_wp2
        go_roundw
        case rel => exact ⟨k + 1, by omega, by go_num, HN2, b2⟩
        case measure => simp [intOf]; omega
      · obtain ⟨sm, esm⟩ : ∃ z, Lab.same t name = z := ⟨_, rfl⟩
        rw [esm] at HT
        have C2 := rsamel_at esm (by omega) hn w2
        clear esm
        go_wp2_with fail
        refine C2.mono ?_
        clear C2
        rintro e w3 ⟨rfl, hb3⟩
        have b3 := b2.trans (hb3.mono b2.size)
        have c1' := (hb3.cell (p := ⟨bq, oq + k, none⟩) (show bq < w2.heap.size from Nat.lt_of_lt_of_le hbr hb2.size)).trans c0
        cases sm
        · have HN2 : Hid (∀ y ∈ cs.take (k + 1), Zo.hostIs dom name y = false) := Lib.hid (by
            rw [take_more HY.out]
            intro z hz
            rcases List.mem_append.1 hz with hz | hz
            · exact HNO.out z hz
            · rw [List.mem_singleton.1 hz, HT.out]; rfl)
          go_wp2
          go_roundw
          case rel => exact ⟨k + 1, by omega, by go_num, HN2, b3⟩
          case measure => simp [intOf]; omega
        · have HE : Hid (hh = y) := Lib.hid (NF.out HY.out HNO.out (by rw [HT.out]; rfl))
          go_wp2
          go_ret
          exact ⟨by rw [EHH.out, HE.out]; rfl, b1.trans (b3.mono (by omega))⟩
    · have HE : Hid (hh = -1) := Lib.hid (NN.out (by have h1 := HNO.out; rwa [List.take_of_length_le (by have := HL1.out; omega)] at h1))
      go_wp2
      go_ret
      exact ⟨by rw [EHH.out, HE.out]; rfl, b1.trans (b.mono (by omega))⟩
end Go.Proofs.YtmbfldcmiabccaaGreatDoor

