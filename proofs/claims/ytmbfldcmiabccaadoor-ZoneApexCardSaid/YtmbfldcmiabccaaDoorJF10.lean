/- BRef2 BRef3 BRef4 ORef2 ORef3 ORef4 (merged). -/
import Derived.Deep.QuietTactic
import Derived.Deep.DeepCutAuto
import Derived.Test.YtmbfldcmiabccaaDoorJF09
namespace Go.Proofs.YtmbfldcmiabccaaDoor
set_option linter.unusedVariables false
set_option linter.unusedSimpArgs false
open Go.RowKit
theorem rlright_any (s : List UInt8) (hs : s.length ≤ 1100000) (w : World) : Calls Tryd.prog 22 #[.string (strB s)] w (BoB (Lab.right s) w) := by
  go_enter Tryd.func22, Tryd.ntmps22
  go_wp2_with fail
  refine (rcut_any s (by omega) w).mono ?_
  rintro e w1 ⟨⟨A, n, c, rfl, _, _, _, _⟩, hb⟩
  go_wp2
  go_ret
  exact ⟨rfl, hb⟩
theorem take_len {l : List (List UInt8)} {k : Nat} {x : List UInt8} (h : l[k]? = some x) : l.take (k + 1) = l.take k ++ [x] := take_more h
namespace Lab
theorem join_nil {l : List (List UInt8)} {k : Nat} (h : l[k]? = some []) : join l = ([], 3) := by unfold join; rw [if_pos (List.mem_of_getElem? h)]
theorem join_no {l : List (List UInt8)} (h : ¬ [] ∈ l) (h2 : ¬ ok l) : join l = ([], 4) := by unfold join; rw [if_neg h, if_neg h2]
theorem wires_take (l : List (List UInt8)) (k : Nat) : (wires (l.take k)).length ≤ (wires l).length := by
  have e : l.take k ++ l.drop k = l := List.take_append_drop k l
  have h : wires l = wires (l.take k) ++ wires (l.drop k) := by rw [← wires_app, e]
  rw [h, List.length_append]; omega
theorem long_no {l : List (List UInt8)} {k : Nat} {x : List UInt8} (h : l[k]? = some x) (hx : 63 < x.length) : ¬ ok l := fun ho => by
  have := (ho.1 x (List.mem_of_getElem? h)).2
  omega
theorem much_no {l : List (List UInt8)} {k : Nat} (h : 254 < (wires (l.take k)).length) : ¬ ok l := fun ho => by
  have h1 := wires_take l k
  have h2 := ho.2
  rw [names_len] at h2
  omega
theorem ok_yes {l : List (List UInt8)} (h1 : ¬ [] ∈ l) (h2 : ∀ x ∈ l, x.length ≤ 63) (h3 : (wires l).length ≤ 254) : ok l := by
  refine ⟨fun s hs => ⟨?_, h2 s hs⟩, by rw [names_len]; omega⟩
  rcases Nat.eq_zero_or_pos s.length with h | h
  · exact absurd (List.eq_nil_of_length_eq_zero h ▸ hs) h1
  · exact h
end Lab
theorem u8_fit {z : Int} (h : 0 ≤ z ∧ z ≤ 255) : IntKind.u8.wrap z = z := IntWalk.u8_in _ h
set_option maxHeartbeats 4000000 in
set_option maxRecDepth 20000 in
theorem rjoinl_any (l : List (List UInt8)) (A : Option Addr) (n c B : Nat) (w : World) (h : Rd w B 1 A n (Tt l)) (hB : B ≤ w.heap.size) (hn : n ≤ 1000000) (hl : ∀ x ∈ l, x.length ≤ 1000000) :
    Calls Tryd.prog 44 #[.slice A n c] w (TxE (Lab.join l).1 (Lab.join l).2 w) := by
  have hlen : l.length = n := by have h1 := h.len1; rwa [Tt_len] at h1
  have HL := Lib.hid hlen
  have HS := Lib.hid hl
  clear hlen hl
  go_enter Tryd.func44, Tryd.ntmps44
  go_wp2
  go_loop [4] (fun i => ∃ k : Nat, k ≤ n ∧ i = .int .i64 (k : Int) ∧ Hid (¬ [] ∈ l.take k)) (fun i => n - (intOf i).toNat)
  case atStart => exact ⟨0, by omega, rfl, Lib.hid (by simp)⟩
  case round =>
    obtain ⟨k, hk, rfl, HNO⟩ := hrel
    have hk0 : (0 : Int) ≤ (k : Int) := by omega
    by_cases hlt : k < n
    · obtain ⟨bk, ok', x, rfl, hbk, hx, hc⟩ := h.atT hlt
      have HX := Lib.hid hx
      clear hx
      by_cases hx0 : x = []
      · have CN := Lib.hid (Lab.join_nil (k := k) (by rw [HX.out, hx0]))
        have q : (strB x == (⟨#[]⟩ : ByteArray)) = true := by rw [hx0]; rfl
        have q2 : x.isEmpty = true := by rw [hx0]; rfl
        clear hx0
        go_wp2
        go_ret2
        exact ⟨by rw [CN.out]; rfl, Below.refl _ _⟩
      · have q : (strB x == (⟨#[]⟩ : ByteArray)) = false := by have h1 := strB_beq x []; rw [decide_eq_false hx0] at h1; exact h1
        have q2 : x.isEmpty = false := by cases x with | nil => exact absurd rfl hx0 | cons a b => rfl
        have HN2 : Hid (¬ [] ∈ l.take (k + 1)) := Lib.hid (by
          rw [take_len HX.out]
          intro hm
          rcases List.mem_append.1 hm with hm | hm
          · exact HNO.out hm
          · exact hx0 (List.mem_singleton.1 hm).symm)
        clear hx0
        go_wp2
        go_round
        case rel => exact ⟨k + 1, by omega, by go_num, HN2⟩
        case measure => simp [intOf]; omega
    · have hkk : ¬ (k : Int) < (n : Int) := by omega
      have HNE : Hid (¬ [] ∈ l) := Lib.hid (by have h1 := HNO.out; rwa [List.take_of_length_le (by have := HL.out; omega)] at h1)
      clear HNO
      go_wp2
      go_loopw [5, 6] (fun o i wr => ∃ k : Nat, k ≤ n ∧ i = .int .i64 (k : Int) ∧ o = .string (strB (Lab.wires (l.take k))) ∧ Hid (∀ x ∈ l.take k, x.length ≤ 63) ∧ Hid ((Lab.wires (l.take k)).length ≤ 400) ∧ Below w.heap.size w wr) (fun _ i _ => n - (intOf i).toNat)
      case atStart => exact ⟨0, by omega, rfl, rfl, Lib.hid (by simp), Lib.hid (by simp [Lab.wires]), Below.refl _ _⟩
      case round =>
        obtain ⟨k, hk, rfl, rfl, HF, HW, bl⟩ := hrel
        have hk0 : (0 : Int) ≤ (k : Int) := by omega
        obtain ⟨t, ht⟩ : ∃ t, Lab.wires (l.take k) = t := ⟨_, rfl⟩
        rw [ht] at HW ⊢
        have HT := Lib.hid ht
        clear ht
        have hts : (strB t).size = t.length := strB_sz t
        have htl := HW.out
        have hts2 : (strB t).size ≤ 400 := by omega
        have HTS := Lib.hid hts
        clear hts
        have R := h.below (bl.mono hB)
        by_cases hlt2 : k < n
        · obtain ⟨bk, ok', x, rfl, hbk, hx, hc⟩ := R.atT hlt2
          have HX := Lib.hid hx
          have hxs : (strB x).size = x.length := strB_sz x
          have hxm := HS.out x (List.mem_of_getElem? hx)
          have hxs2 : (strB x).size ≤ 1000000 := by omega
          have HXS := Lib.hid hxs
          clear hx hxs
          by_cases h63 : 63 < (strB x).size
          · have CN := Lib.hid (Lab.join_no HNE.out (Lab.long_no HX.out (by have := HXS.out; omega)))
            go_wp2
            go_ret2
            exact ⟨by rw [CN.out]; rfl, bl⟩
          by_cases h255 : 255 < (strB t).size
          · have CN := Lib.hid (Lab.join_no HNE.out (Lab.much_no (k := k) (by rw [HT.out]; have := HTS.out; omega)))
            go_wp2
            go_ret2
            exact ⟨by rw [CN.out]; rfl, bl⟩
          have hx63 : x.length ≤ 63 := by have := HXS.out; omega
          have cz : IntKind.u8.wrap (((strB x).size : Nat) : Int) = (((strB x).size : Nat) : Int) := u8_fit (by omega)
          obtain ⟨bb, hbb⟩ : ∃ bb, UInt8.ofNat x.length = bb := ⟨_, rfl⟩
          have ez : U [bb] = [.int .u8 (((strB x).size : Nat) : Int)] := by
            show [Value.int .u8 (bb.toNat : Int)] = _
            rw [← hbb, Lab.ofNat_len hx63, HXS.out]
          have E1 : ∀ w0 : World, (convert 79 9 (.slice (some ⟨w0.heap.size, 0, none⟩) 1 1)).run Tryd.prog (w0.alloc (.cells #[.int .u8 (((strB x).size : Nat) : Int)] 5)).drew = .ok (.string (strB [bb])) (w0.alloc (.cells #[.int .u8 (((strB x).size : Nat) : Int)] 5)).drew := fun w0 =>
            run_str 79 9 5 Tryd.underlying79 Tryd.underlying5 Tryd.underlying9 (l := [bb]) (B := w0.heap.size + 1) (by rw [ez]; exact (Rd.lit w0 #[.int .u8 (((strB x).size : Nat) : Int)] 5 1 1 rfl).drew)
          obtain ⟨t1, ht1⟩ : ∃ t1, t ++ [bb] = t1 := ⟨_, rfl⟩
          obtain ⟨t2, ht2⟩ : ∃ t2, t1 ++ x = t2 := ⟨_, rfl⟩
          have l1 : t1.length = t.length + 1 := by rw [← ht1]; simp
          have l2 : t2.length = t.length + 1 + x.length := by rw [← ht2, List.length_append, l1]
          have A1 : ∀ w, (Op.stringOp .add (strB t) (strB [bb])).run Tryd.prog w = .ok (.string (strB t1)) w := fun w => by rw [← ht1]; exact run_two (by simp; omega)
          have A2 : ∀ w, (Op.stringOp .add (strB t1) (strB x)).run Tryd.prog w = .ok (.string (strB t2)) w := fun w => by rw [← ht2]; exact run_two (by omega)
          have HT2 : Hid (Lab.wires (l.take (k + 1)) = t2) := Lib.hid (by
            rw [take_len HX.out, Lab.wires_app, HT.out, ← ht2, ← ht1, ← hbb]
            show t ++ (Lab.wire x ++ []) = _
            simp [Lab.wire])
          have HF2 : Hid (∀ y ∈ l.take (k + 1), y.length ≤ 63) := Lib.hid (by
            rw [take_len HX.out]
            intro y hy
            rcases List.mem_append.1 hy with hy | hy
            · exact HF.out y hy
            · obtain rfl := List.mem_singleton.1 hy; exact hx63)
          have HW2 : Hid (t2.length ≤ 400) := Lib.hid (by have := HTS.out; omega)
          have bl2 := (bl.alloc bl.size (.cells #[.int .u8 (((strB x).size : Nat) : Int)] 5)).drew
          have hc2 : (wr.alloc (.cells #[.int .u8 (((strB x).size : Nat) : Int)] 5)).cell? ⟨bk, ok' + k, none⟩ = some (.string (strB x)) := by
            rw [World.cell?_alloc_lt wr _ ⟨bk, ok' + k, none⟩ (by show bk < _; have := bl.size; omega)]
            exact hc
          clear hbb ez ht1 ht2 l1 l2 hxm htl hx63 HF R
          go_wp2_with fail
          go_region
          go_wp2
          go_roundw
          case rel => exact ⟨k + 1, by omega, by go_num, by rw [HT2.out], HF2, by rw [HT2.out]; exact HW2, bl2⟩
          case measure => simp [intOf]; omega
        · have hkk2 : ¬ (k : Int) < (n : Int) := by omega
          have e1 : l.take k = l := List.take_of_length_le (by have := HL.out; omega)
          have HTN : Hid (Lab.wires l = t) := Lib.hid (by rw [← HT.out, e1])
          have HFN : Hid (∀ y ∈ l, y.length ≤ 63) := Lib.hid (by have h1 := HF.out; rwa [e1] at h1)
          clear e1
          by_cases h254 : 254 < (strB t).size
          · have CN := Lib.hid (Lab.join_no HNE.out (Lab.much_no (k := k) (by rw [HT.out]; have := HTS.out; omega)))
            go_wp2
            go_ret2
            exact ⟨by rw [CN.out]; rfl, bl⟩
          · have CN : Hid (Lab.join l = (t ++ [0], 0)) := Lib.hid (by rw [Lab.join_ok (Lab.ok_yes HNE.out HFN.out (by rw [HTN.out]; have := HTS.out; omega))]; unfold Lab.names; rw [HTN.out])
            have A3 : ∀ w, (Op.stringOp .add (strB t) ⟨#[0]⟩).run Tryd.prog w = .ok (.string (strB (t ++ [0]))) w := fun w => run_two (b := [0]) (by simp; omega)
            clear htl
            go_wp2
            go_ret2
            exact ⟨by rw [CN.out]; rfl, bl⟩
end Go.Proofs.YtmbfldcmiabccaaDoor

namespace Go.Proofs.YtmbfldcmiabccaaDoor
set_option linter.unusedVariables false
set_option linter.unusedSimpArgs false
open Go.RowKit
/-! ### Bytes of one's own, each of which may be written -/
def Lo (w : World) (b : Nat) (l : List UInt8) : Prop := b < w.heap.size ∧ ∀ j x, l[j]? = some x → w.cell? ⟨b, j, none⟩ = some (.int .u8 (x.toNat : Int)) ∧ w.frozen? ⟨b, j, none⟩ = false
theorem Lo.below {w w' : World} {b B : Nat} {l : List UInt8} (h : Lo w b l) (hb : Below B w w') (hB : b < B) : Lo w' b l := by
  refine ⟨Nat.lt_of_lt_of_le h.1 hb.size, fun j x hx => ?_⟩
  obtain ⟨h1, h2⟩ := h.2 j x hx
  refine ⟨(hb.cell (p := ⟨b, j, none⟩) hB).trans h1, ?_⟩
  rw [← h2]
  unfold World.frozen?
  rw [show w'.heap[(⟨b, j, none⟩ : Addr).block]? = w.heap[(⟨b, j, none⟩ : Addr).block]? from hb.block b hB]
theorem Lo.set {w : World} {b k : Nat} {l : List UInt8} (h : Lo w b l) (y : UInt8) : Lo (w.setCell ⟨b, k, none⟩ (.int .u8 (y.toNat : Int))) b (l.set k y) := by
  refine ⟨by simpa using h.1, fun j x hx => ?_⟩
  by_cases e : k = j
  · subst e
    have hk : k < l.length := by
      have h1 := (List.getElem?_eq_some_iff.1 hx).1
      rwa [List.length_set] at h1
    obtain rfl : y = x := by rw [List.getElem?_set_self hk] at hx; injection hx
    obtain ⟨h1, h2⟩ := h.2 k _ (List.getElem?_eq_getElem hk)
    exact ⟨World.cell?_setCell_same' w _ _ (by rw [h1]; rfl), by rw [World.frozen?_setCell]; exact h2⟩
  · rw [List.getElem?_set_ne e] at hx
    obtain ⟨h1, h2⟩ := h.2 j x hx
    exact ⟨(World.cell?_setCell_other w _ _ _ (by intro h3; injection h3 with _ h4; exact e h4)).trans h1, by rw [World.frozen?_setCell]; exact h2⟩
theorem Lo.rd {w : World} {b : Nat} {l : List UInt8} (h : Lo w b l) : Rd w w.heap.size 1 (some ⟨b, 0, none⟩) l.length (U l) := by
  refine ⟨by simp [U_length], fun _ => ⟨b, 0, rfl, h.1, fun j hj => ?_⟩⟩
  rw [U_length] at hj
  obtain ⟨x, hx⟩ : ∃ x, l[j]? = some x := ⟨_, List.getElem?_eq_getElem hj⟩
  rw [Nat.zero_add, (h.2 j x hx).1, U_get, hx]
  rfl
theorem Lo.new (w : World) (l : List UInt8) : Lo (w.drew.alloc (strO w (strB l))) w.heap.size l := by
  refine ⟨by simp, fun j x hx => ?_⟩
  have hj := (List.getElem?_eq_some_iff.1 hx).1
  have R := Rd.bytes w l
  obtain ⟨b, o, e, _, hc⟩ := R.at1 hj
  obtain ⟨rfl, rfl⟩ : w.heap.size = b ∧ 0 = o := by simpa using e
  have h1 := hc j hj
  rw [Nat.zero_add] at h1
  refine ⟨by rw [h1, U_get, hx]; rfl, ?_⟩
  have h2 := World.frozen?_alloc_mark w.drew (bytesRow (strB l) (strC w (strB l))) 5 (bytesRow (strB l) (strC w (strB l))).size ((bytesRow (strB l) (strC w (strB l))).size + 1) j
  have h3 : j < (bytesRow (strB l) (strC w (strB l))).size := by
    have h4 := bytesRow_at (strB l) (strC w (strB l)) j (by simpa [strB] using hj)
    exact (Array.getElem?_eq_some_iff.1 h4).1
  unfold strO
  rw [show w.heap.size = w.drew.heap.size from rfl, h2]
  simp
  omega
namespace Lab
theorem low_step {s : List UInt8} {k : Nat} {x : UInt8} (h : s[k]? = some x) : (low (s.take k) ++ s.drop k).set k (lowB x) = low (s.take (k + 1)) ++ s.drop (k + 1) := by
  have hk := (List.getElem?_eq_some_iff.1 h).1
  have hl : (low (s.take k)).length = k := by rw [low_len, List.length_take]; omega
  have hd : s.drop k = x :: s.drop (k + 1) := by
    rw [List.drop_eq_getElem_cons hk]
    congr 1
    have h1 := List.getElem?_eq_getElem hk
    rw [h] at h1
    injection h1 with h1
    exact h1.symm
  rw [List.set_append_right k _ (by omega), hl, Nat.sub_self, hd, List.set_cons_zero, take_more h]
  unfold low
  rw [List.map_append, List.append_assoc]
  rfl
theorem low_at {s : List UInt8} {k : Nat} {x : UInt8} (h : s[k]? = some x) : (low (s.take k) ++ s.drop k)[k]? = some x := by
  have hk := (List.getElem?_eq_some_iff.1 h).1
  have hl : (low (s.take k)).length = k := by rw [low_len, List.length_take]; omega
  rw [List.getElem?_append_right (by omega), hl, Nat.sub_self, List.getElem?_drop, Nat.add_zero]
  exact h
theorem low_mid_len (s : List UInt8) (k : Nat) : (low (s.take k) ++ s.drop k).length = s.length := by rw [List.length_append, low_len, List.length_take, List.length_drop]; omega
theorem lowB_no {c : UInt8} (h : ¬ (65 ≤ c.toNat ∧ c.toNat ≤ 90)) : lowB c = c := if_neg h
end Lab
theorem u8_of' {z : Int} (h : 0 ≤ z ∧ z ≤ 255) : IntKind.u8.wrap z = z := IntWalk.u8_in _ h
set_option maxHeartbeats 4000000 in
set_option maxRecDepth 20000 in
theorem rlower_any (s : List UInt8) (hs : s.length ≤ 100000) (w : World) : Calls Tryd.prog 16 #[.string (strB s)] w (TxO (Lab.lower s) w) := by
  obtain ⟨n, hn⟩ : ∃ n, s.length = n := ⟨_, rfl⟩
  have hsz : (strB s).size = n := by rw [strB_sz, hn]
  have HN := Lib.hid hn
  have hby := run_bytes w (strB s)
  rw [hsz] at hby
  have L0 : Lo (w.alloc (strO w (strB s))).drew w.heap.size s := Lo.new w s
  have b0 : Below w.heap.size w (w.alloc (strO w (strB s))).drew := ((Below.refl w.heap.size w).alloc (Nat.le_refl _) (strO w (strB s))).drew
  have hnm : n ≤ 100000 := by omega
  obtain ⟨cp, hcp⟩ : ∃ cp, strC w (strB s) = cp := ⟨_, rfl⟩
  rw [hcp] at hby
  clear hn hs hcp
  go_enter Tryd.func16, Tryd.ntmps16
  go_wp2
  generalize (w.alloc (strO w (strB s))).drew = w1 at *
  go_loopw [4] (fun i wr => ∃ k : Nat, k ≤ n ∧ i = .int .i64 (k : Int) ∧ Lo wr w.heap.size (Lab.low (s.take k) ++ s.drop k) ∧ Hid (k = 0 ∨ Lab.right s = true) ∧ Below w.heap.size w wr) (fun i _ => n - (intOf i).toNat)
  case atStart => exact ⟨0, by omega, rfl, by simpa [Lab.low] using L0, Lib.hid (Or.inl rfl), b0⟩
  case round =>
    clear L0 b0
    obtain ⟨k, hk, rfl, L, HR, bl⟩ := hrel
    have hk0 : (0 : Int) ≤ (k : Int) := by omega
    have stop : Hid (k = n ∨ Lab.right s = false) → Hid (Lab.low (s.take k) ++ s.drop k = Lab.lower s) := fun h => Lib.hid (by
      have hl := HN.out
      rcases HR.out with h0 | h0
      · subst h0
        rcases h.out with h1 | h1
        · have : s = [] := List.eq_nil_of_length_eq_zero (by omega)
          subst this
          unfold Lab.lower
          split <;> rfl
        · rw [Lab.lower_no h1]; simp [Lab.low]
      · rcases h.out with h1 | h1
        · unfold Lab.lower
          rw [if_pos h0, List.take_of_length_le (by omega), List.drop_of_length_le (by omega), List.append_nil]
        · rw [h0] at h1; cases h1)
    have ES : ∀ (t : List UInt8), Lab.low (s.take k) ++ s.drop k = t → ∀ wr', Lo wr' w.heap.size t → (convert 79 9 (.slice (some ⟨w.heap.size, 0, none⟩) n cp)).run Tryd.prog wr' = .ok (.string (strB t)) wr' := fun t ht wr' hL => by
      have hlen : t.length = n := by rw [← ht, Lab.low_mid_len, HN.out]
      have R := hL.rd
      rw [hlen] at R
      exact run_str 79 9 5 Tryd.underlying79 Tryd.underlying5 Tryd.underlying9 R
    by_cases hlt : k < n
    · obtain ⟨x, hx⟩ : ∃ x, s[k]? = some x := ⟨_, List.getElem?_eq_getElem (by rw [HN.out]; exact hlt)⟩
      have HX := Lib.hid hx
      clear hx
      have g3 : decide (k < n) = true := decide_eq_true hlt
      have g1 : decide ((k : Int) < (n : Int)) = true := decide_eq_true (by omega)
      cases hr : Lab.right s with
      | false =>
        have ST := stop (Lib.hid (Or.inr hr))
        have HRF := Lib.hid hr
        clear hr stop
        obtain ⟨t, ht⟩ : ∃ t, Lab.lower s = t := ⟨_, rfl⟩
        have HTT := Lib.hid ht
        rw [ht] at ST
        clear ht
        rw [ST.out] at L
        go_wp2_with fail
        have ct := rlright_any s (by rw [HN.out]; omega) wr
        rw [HRF.out] at ct
        refine ct.mono ?_
        rintro e w2 ⟨rfl, hb⟩
        replace L := L.below hb L.1
        replace bl := bl.trans (hb.mono bl.size)
        have E := ES t ST.out w2 L
        clear hb ES ct
        go_wp2
        go_ret
        exact ⟨by rw [HTT.out]; rfl, bl⟩
      | true =>
        have HRT := Lib.hid hr
        clear hr stop ES
        go_wp2_with fail
        have ct := rlright_any s (by rw [HN.out]; omega) wr
        rw [HRT.out] at ct
        refine ct.mono ?_
        rintro e w2 ⟨rfl, hb⟩
        replace L := L.below hb L.1
        replace bl := bl.trans (hb.mono bl.size)
        clear hb ct
        obtain ⟨c0, f0⟩ := L.2 k x (Lab.low_at HX.out)
        have HST := Lib.hid (Lab.low_step HX.out)
        obtain ⟨ci, hci⟩ : ∃ z : Int, (x.toNat : Int) = z := ⟨_, rfl⟩
        rw [hci] at c0
        have hx256 : x.toNat < 256 := x.toNat_lt
        by_cases hg : 65 ≤ x.toNat ∧ x.toNat ≤ 90
        · have t1 : decide (65 ≤ ci) = true := decide_eq_true (by omega)
          have t2 : decide (ci ≤ 90) = true := decide_eq_true (by omega)
          have e1 : ((Lab.lowB x).toNat : Int) = ci + 32 := by rw [Lab.lowB_nat, if_pos hg]; omega
          have L2 := L.set (k := k) (Lab.lowB x)
          rw [HST.out, e1] at L2
          have u1 : IntKind.u8.wrap (ci + 32) = ci + 32 := u8_of' (by omega)
          have b2 := below_set (o := k) bl (Nat.le_refl _) (.int .u8 (ci + 32))
          clear hg hci e1 hx256 L bl
          go_wp2
          go_roundw
          case rel => exact ⟨k + 1, by omega, by go_num, L2, Lib.hid (Or.inr (by first | trivial | exact HRT.out)), b2⟩
          case measure => simp [intOf]; omega
        · have e1 := Lab.lowB_no hg
          have L2 : Lo w2 w.heap.size (Lab.low (s.take (k + 1)) ++ s.drop (k + 1)) := by
            rw [← HST.out, e1]
            have h1 := Lab.low_at HX.out
            have h2 : (Lab.low (s.take k) ++ s.drop k).set k x = Lab.low (s.take k) ++ s.drop k := by
              refine List.ext_getElem? fun j => ?_
              by_cases e : k = j
              · subst e; rw [List.getElem?_set_self (List.getElem?_eq_some_iff.1 h1).1, h1]
              · rw [List.getElem?_set_ne e]
            rw [h2]
            exact L
          by_cases ha : 65 ≤ x.toNat
          · have t1 : decide (65 ≤ ci) = true := decide_eq_true (by omega)
            have t2 : decide (ci ≤ 90) = false := decide_eq_false (by omega)
            clear hg hci e1 hx256 ha L
            go_wp2
            go_roundw
            case rel => exact ⟨k + 1, by omega, by go_num, L2, Lib.hid (Or.inr (by first | trivial | exact HRT.out)), bl⟩
            case measure => simp [intOf]; omega
          · have t1 : decide (65 ≤ ci) = false := decide_eq_false (by omega)
            clear hg hci e1 hx256 ha L
            go_wp2
            go_roundw
            case rel => exact ⟨k + 1, by omega, by go_num, L2, Lib.hid (Or.inr (by first | trivial | exact HRT.out)), bl⟩
            case measure => simp [intOf]; omega
    · have hkn : k = n := by omega
      have ST := stop (Lib.hid (Or.inl hkn))
      have g3 : decide (k < n) = false := decide_eq_false hlt
      have g1 : decide ((k : Int) < (n : Int)) = false := decide_eq_false (by omega)
      obtain ⟨t, ht⟩ : ∃ t, Lab.lower s = t := ⟨_, rfl⟩
      have HTT := Lib.hid ht
      rw [ht] at ST
      clear ht
      rw [ST.out] at L
      have E := ES t ST.out wr L
      clear stop ES hkn hlt
      go_wp2
      go_ret
      exact ⟨by rw [HTT.out]; rfl, bl⟩
end Go.Proofs.YtmbfldcmiabccaaDoor

namespace Go.Proofs.YtmbfldcmiabccaaDoor
set_option linter.unusedVariables false
set_option linter.unusedSimpArgs false
open Go.RowKit
theorem rlright_at {s : List UInt8} {z : Bool} (e : Lab.right s = z) (hs : s.length ≤ 100000) (w : World) : Calls Tryd.prog 22 #[.string (strB s)] w (BoB z w) := by have h := rlright_any s (by omega) w; rw [e] at h; exact h
theorem rlower_at {s t : List UInt8} (e : Lab.lower s = t) (hs : s.length ≤ 100000) (w : World) : Calls Tryd.prog 16 #[.string (strB s)] w (TxO t w) := by have h := rlower_any s hs w; rw [e] at h; exact h
set_option maxHeartbeats 2000000 in
theorem rsamel_any (a b : List UInt8) (ha : a.length ≤ 100000) (hb : b.length ≤ 100000) (w : World) : Calls Tryd.prog 45 #[.string (strB a), .string (strB b)] w (BoB (Lab.same a b) w) := by
  obtain ⟨za, hza⟩ : ∃ z, Lab.right a = z := ⟨_, rfl⟩
  obtain ⟨zb, hzb⟩ : ∃ z, Lab.right b = z := ⟨_, rfl⟩
  obtain ⟨ta, hta⟩ : ∃ z, Lab.lower a = z := ⟨_, rfl⟩
  obtain ⟨tb, htb⟩ : ∃ z, Lab.lower b = z := ⟨_, rfl⟩
  have EZ : Hid (Lab.same a b = (za && zb && decide (ta = tb))) := Lib.hid (by unfold Lab.same; rw [hza, hzb, hta, htb])
  obtain ⟨z, hz⟩ : ∃ z, Lab.same a b = z := ⟨_, rfl⟩
  rw [hz] at EZ ⊢
  have HZA := Lib.hid hza
  have HZB := Lib.hid hzb
  have HTA := Lib.hid hta
  have HTB := Lib.hid htb
  have b0 := Below.refl w.heap.size w
  clear hz hza hzb hta htb
  cases za
  · have EZ2 : Hid (z = false) := Lib.hid (by rw [EZ.out]; rfl)
    clear EZ
    go_enter Tryd.func45, Tryd.ntmps45
    go_wp2_with fail
    refine (rlright_at HZA.out ha w).mono ?_
    rintro e w1 ⟨rfl, h1⟩
    replace b0 := b0.trans (h1.mono b0.size)
    clear h1
    go_wp2
    go_ret
    exact ⟨ret_bool EZ2.out.symm, b0⟩
  cases zb
  · have EZ2 : Hid (z = false) := Lib.hid (by rw [EZ.out]; rfl)
    clear EZ
    go_enter Tryd.func45, Tryd.ntmps45
    go_wp2_with fail
    refine (rlright_at HZA.out ha w).mono ?_
    rintro e w1 ⟨rfl, h1⟩
    replace b0 := b0.trans (h1.mono b0.size)
    clear h1
    go_wp2_with fail
    refine (rlright_at HZB.out hb w1).mono ?_
    rintro e w2 ⟨rfl, h1⟩
    replace b0 := b0.trans (h1.mono b0.size)
    clear h1
    go_wp2
    go_ret
    exact ⟨ret_bool EZ2.out.symm, b0⟩
  have EZ2 : Hid ((strB ta == strB tb) = z) := Lib.hid (by rw [EZ.out, strB_beq]; simp)
  have EZ3 : Hid ((ta == tb) = z) := Lib.hid (by rw [EZ.out]; by_cases h : ta = tb <;> simp [h])
  clear EZ
  go_enter Tryd.func45, Tryd.ntmps45
  go_wp2_with fail
  refine (rlright_at HZA.out ha w).mono ?_
  rintro e w1 ⟨rfl, h1⟩
  replace b0 := b0.trans (h1.mono b0.size)
  clear h1
  go_wp2_with fail
  refine (rlright_at HZB.out hb w1).mono ?_
  rintro e w2 ⟨rfl, h1⟩
  replace b0 := b0.trans (h1.mono b0.size)
  clear h1
  go_wp2_with fail
  refine (rlower_at HTA.out ha w2).mono ?_
  rintro e w3 ⟨rfl, h1⟩
  replace b0 := b0.trans (h1.mono b0.size)
  clear h1
  go_wp2_with fail
  refine (rlower_at HTB.out hb w3).mono ?_
  rintro e w4 ⟨rfl, h1⟩
  replace b0 := b0.trans (h1.mono b0.size)
  clear h1
  have e1 := EZ2.out
  have e2 := EZ3.out
  go_wp2
  go_ret
  exact ⟨ret_bool (by first | exact e1 | exact e2 | simp_all), b0⟩
theorem rsamel_at {a b : List UInt8} {z : Bool} (e : Lab.same a b = z) (ha : a.length ≤ 100000) (hb : b.length ≤ 100000) (w : World) : Calls Tryd.prog 45 #[.string (strB a), .string (strB b)] w (BoB z w) := by have h := rsamel_any a b ha hb w; rw [e] at h; exact h
theorem rcut_at {s : List UInt8} {c : Option (List (List UInt8))} (e : Lab.cut s = c) (hs : s.length ≤ 100000) (w : World) : Calls Tryd.prog 43 #[.string (strB s)] w (CutR c w) := by have h := rcut_any s (by omega) w; rw [e] at h; exact h
theorem rjoinl_at {l : List (List UInt8)} {t : List UInt8} {er : Int} (e : Lab.join l = (t, er)) (A : Option Addr) (n c B : Nat) (w : World) (h : Rd w B 1 A n (Tt l)) (hB : B ≤ w.heap.size) (hn : n ≤ 1000000) (hl : ∀ x ∈ l, x.length ≤ 1000000) :
    Calls Tryd.prog 44 #[.slice A n c] w (TxE t er w) := by have h1 := rjoinl_any l A n c B w h hB hn hl; rw [e] at h1; exact h1
theorem Tt_drop (l : List (List UInt8)) (k : Nat) : Tt (l.drop k) = (Tt l).drop k := List.map_drop
namespace Lab
theorem ok_count : ∀ {l : List (List UInt8)}, (∀ s ∈ l, okL s) → l.length ≤ (wires l).length
  | [], _ => Nat.zero_le _
  | s :: l, h => by
    have h1 := ok_count (l := l) fun x hx => h x (by simp [hx])
    rw [wires_cons, List.length_append]
    simp only [wire, List.length_cons]
    omega
theorem ok_few {l : List (List UInt8)} (h : ok l) : l.length ≤ 254 := by
  have h1 := ok_count h.1
  have h2 := h.2
  rw [names_len] at h2
  omega
theorem under_cut {a b : List UInt8} {l m : List (List UInt8)} (ha : cut a = some l) (hb : cut b = some m) : under a b = (decide (m.length ≤ l.length) && same (names (l.drop (l.length - m.length))) b) := by
  unfold under right labels
  rw [ha, hb]
  simp
theorem under_none {a b : List UInt8} (h : cut a = none ∨ cut b = none) : under a b = false := by
  unfold under right
  rcases h with h | h <;> rw [h] <;> simp
end Lab
set_option maxHeartbeats 4000000 in
set_option maxRecDepth 20000 in
theorem runder_any (a b : List UInt8) (ha : a.length ≤ 100000) (hb : b.length ≤ 100000) (w : World) : Calls Tryd.prog 20 #[.string (strB a), .string (strB b)] w (BoB (Lab.under a b) w) := by
  have b0 := Below.refl w.heap.size w
  obtain ⟨ca, hca⟩ : ∃ z, Lab.cut a = z := ⟨_, rfl⟩
  obtain ⟨cb, hcb⟩ : ∃ z, Lab.cut b = z := ⟨_, rfl⟩
  have HCA := Lib.hid hca
  have HCB := Lib.hid hcb
  clear hca hcb
  go_enter Tryd.func20, Tryd.ntmps20
  go_wp2_with fail
  refine (rcut_at HCA.out ha w).mono ?_
  rintro e w1 ⟨⟨A1, n1, c1, rfl, hn1, R1, hc1, hd1⟩, h1⟩
  have HM1 := Lib.hid hn1
  clear hn1
  replace b0 := b0.trans (h1.mono b0.size)
  clear h1
  go_wp2_with fail
  refine (rcut_at HCB.out hb w1).mono ?_
  rintro e w2 ⟨⟨A2, n2, c2, rfl, hn2, R2, hc2, hd2⟩, h1⟩
  have HM2 := Lib.hid hn2
  clear hn2
  replace R1 := R1.belowH h1
  replace b0 := b0.trans (h1.mono b0.size)
  clear h1
  cases ca with
  | none =>
    have EZ : Hid (Lab.under a b = false) := Lib.hid (Lab.under_none (Or.inl HCA.out))
    go_wp2
    go_ret
    exact ⟨ret_bool EZ.out.symm, b0⟩
  | some l =>
    cases cb with
    | none =>
      have EZ : Hid (Lab.under a b = false) := Lib.hid (Lab.under_none (Or.inr HCB.out))
      go_wp2
      go_ret
      exact ⟨ret_bool EZ.out.symm, b0⟩
    | some m =>
      have EZ := Lib.hid (Lab.under_cut HCA.out HCB.out)
      have OL := Lib.hid (Lab.cut_some HCA.out).1
      simp only [Option.getD_some, Option.isSome_some] at R1 R2 ⊢
      have HN1 : Hid (n1 = l.length) := HM1
      have HN2 : Hid (n2 = m.length) := HM2
      have hn3 : n1 ≤ 254 := by have := Lab.ok_few OL.out; have := HN1.out; omega
      by_cases hlt : n1 < n2
      · have EZ2 : Hid (Lab.under a b = false) := Lib.hid (by rw [EZ.out, decide_eq_false (by have := HN1.out; have := HN2.out; omega)]; rfl)
        go_wp2
        go_ret
        exact ⟨ret_bool EZ2.out.symm, b0⟩
      · have OD := Lib.hid (Lab.ok_drop OL.out (l.length - m.length))
        obtain ⟨z, hz⟩ : ∃ z, Lab.same (Lab.names (l.drop (l.length - m.length))) b = z := ⟨_, rfl⟩
        have EZ2 : Hid (Lab.under a b = z) := Lib.hid (by rw [EZ.out, decide_eq_true (by have := HN1.out; have := HN2.out; omega), hz]; rfl)
        have HZ := Lib.hid hz
        have CU := fun w => run_cut_l (P := Tryd.prog) strT w A1 n1 c1 (n1 - n2) ((n1 : Int) - (n2 : Int)) (by omega) (by omega)
        have u1 : IntKind.i64.wrap ((n1 : Int) - (n2 : Int)) = (n1 : Int) - (n2 : Int) := i64_of (by omega) (by omega)
        have u2 : wrap64 ((n1 : Int) - (n2 : Int)) = (n1 : Int) - (n2 : Int) := w64_of (by omega) (by omega)
        have RC := R1.cut1 (cap := c1) (k := n1 - n2) (by omega) hc1
        have ek : l.length - m.length = n1 - n2 := by have := HN1.out; have := HN2.out; omega
        have EK := Lib.hid ek
        rw [← Tt_drop, ← ek] at RC
        rw [ek] at RC
        obtain ⟨d, hd⟩ : ∃ d, l.drop (n1 - n2) = d := ⟨_, rfl⟩
        rw [hd] at RC
        rw [EK.out, hd] at OD HZ
        have hdl : Hid ((Lab.names d).length ≤ 255) := Lib.hid OD.out.2
        have hds : Hid (∀ x ∈ d, x.length ≤ 1000000) := Lib.hid (fun x hx => by have := (OD.out.1 x hx).2; omega)
        have JN := Lib.hid (Lab.join_ok OD.out)
        obtain ⟨t, ht⟩ : ∃ t, Lab.names d = t := ⟨_, rfl⟩
        rw [ht] at hdl HZ JN
        obtain ⟨A3, hA3⟩ : ∃ A3, cutA A1 c1 (n1 - n2) 1 = A3 := ⟨_, rfl⟩
        rw [hA3] at RC CU
        clear hz ek hd ht hA3 R1 R2
        go_wp2_with fail
        refine (rjoinl_at JN.out A3 _ _ _ w2 RC (Nat.le_refl _) (by omega) hds.out).mono ?_
        rintro e w3 ⟨rfl, h1⟩
        replace b0 := b0.trans (h1.mono b0.size)
        clear h1
        clear u1 u2 CU
        go_wp2_with fail
        refine (rsamel_at HZ.out (by have := hdl.out; omega) hb w3).mono ?_
        rintro e w4 ⟨rfl, h1⟩
        replace b0 := b0.trans (h1.mono b0.size)
        go_wp2
        go_ret
        exact ⟨ret_bool EZ2.out.symm, b0⟩
end Go.Proofs.YtmbfldcmiabccaaDoor

namespace Go.Proofs.YtmbfldcmiabccaaDoor
set_option linter.unusedVariables false
set_option linter.unusedSimpArgs false
open Go.RowKit
theorem labels_few' (s : List UInt8) : (Lab.labels s).length ≤ 254 := by
  cases hc : Lab.cut s with
  | none => unfold Lab.labels; rw [hc]; simp
  | some l => unfold Lab.labels; rw [hc]; exact Lab.ok_few (Lab.cut_some hc).1
theorem labels_short (s : List UInt8) : ∀ x ∈ Lab.labels s, x.length ≤ 63 := by
  intro x hx
  cases hc : Lab.cut s with
  | none => unfold Lab.labels at hx; rw [hc] at hx; simp at hx
  | some l => unfold Lab.labels at hx; rw [hc] at hx; exact ((Lab.cut_some hc).1.1 x hx).2
/-- a text and whether it is one -/
def TxB (s : List UInt8) (b : Bool) (w : World) (e : Ending) (w' : World) : Prop := e = .returned (.tuple #[.string (strB s), .bool b]) ∧ Below w.heap.size w w'
theorem ahead_no {dom : List UInt8} (h : Lab.right dom = false) (ls : List (List UInt8)) : Zo.ahead dom ls = ([], false) := by unfold Zo.ahead; rw [if_neg (by rw [h]; simp)]
theorem ahead_yes {dom t : List UInt8} {er : Int} (h : Lab.right dom = true) {ls : List (List UInt8)} (hj : Lab.join (ls ++ Lab.labels dom) = (t, er)) : Zo.ahead dom ls = (t, er == 0) := by unfold Zo.ahead; rw [if_pos h, hj]; rfl
end Go.Proofs.YtmbfldcmiabccaaDoor

namespace Go.Proofs.YtmbfldcmiabccaaDoor
set_option linter.unusedVariables false
set_option linter.unusedSimpArgs false
open Go.RowKit
end Go.Proofs.YtmbfldcmiabccaaDoor

namespace Go.Proofs.YtmbfldcmiabccaaDoor
set_option linter.unusedVariables false
set_option linter.unusedSimpArgs false
open Go.RowKit
theorem ahead_short (dom : List UInt8) (ls : List (List UInt8)) : (Zo.ahead dom ls).1.length ≤ 255 := by
  unfold Zo.ahead
  split
  · show (Lab.join _).1.length ≤ 255
    unfold Lab.join
    split
    · simp
    · split
      · rename_i h; exact h.2
      · simp
  · simp
theorem hostN_short (dom : List UInt8) (n : Int) : (Zo.hostN dom n).1.length ≤ 255 := by
  unfold Zo.hostN
  split
  · simp
  · exact ahead_short _ _
end Go.Proofs.YtmbfldcmiabccaaDoor

