/- The document's labels: is it a name, its labels, labels joined. -/
import Derived.Test.YtillnjhmdgmgeaaDoorBRef
namespace Go.Proofs.YtillnjhmdgmgeaaDoor
set_option linter.unusedVariables false
set_option linter.unusedSimpArgs false
open Go.RowKit
theorem rlright_any (s : List UInt8) (hs : s.length ≤ 1100000) (w : World) : Calls Tryd.prog 14 #[.string (strB s)] w (BoB (Lab.right s) w) := by
  go_enter Tryd.func14, Tryd.ntmps14
  go_wp2_with fail
  refine (rcut_any s (by omega) w).mono ?_
  rintro e w1 ⟨⟨A, n, c, rfl, _, _, _, _⟩, hb⟩
  go_wp2
  go_ret
  exact ⟨rfl, hb⟩
theorem rlabels_any (s : List UInt8) (hs : s.length ≤ 100000) (w : World) : Calls Tryd.prog 17 #[.string (strB s)] w (LabR (Lab.labels s) w) := by
  go_enter Tryd.func17, Tryd.ntmps17
  go_wp2_with fail
  refine (rcut_any s (by omega) w).mono ?_
  rintro e w1 ⟨⟨A, n, c, rfl, rfl, h2, h3, h4⟩, hb⟩
  go_wp2
  go_ret
  exact ⟨⟨A, _, c, rfl, rfl, h2, h3, h4⟩, hb⟩
theorem take_len {l : List (List UInt8)} {k : Nat} {x : List UInt8} (h : l[k]? = some x) : l.take (k + 1) = l.take k ++ [x] := take_more h
namespace Lab
theorem join_nil {l : List (List UInt8)} {k : Nat} (h : l[k]? = some []) : join l = ([], 3) := by unfold join; rw [if_pos (List.mem_of_getElem? h)]
theorem join_no {l : List (List UInt8)} (h : ¬ [] ∈ l) (h2 : ¬ ok l) : join l = ([], 4) := by unfold join; rw [if_neg h, if_neg h2]
theorem wires_take (l : List (List UInt8)) (k : Nat) : (wires (l.take k)).length ≤ (wires l).length := by
  have e : l.take k ++ l.drop k = l := List.take_append_drop k l
  have h : wires l = wires (l.take k) ++ wires (l.drop k) := by rw [← wires_app, e]
  rw [h, List.length_append]; omega
theorem long_no {l : List (List UInt8)} {k : Nat} {x : List UInt8} (h : l[k]? = some x) (hx : 63 < x.length) : ¬ ok l := fun ho => by
  have := (ho.1 x (List.mem_of_getElem? h)).2
  omega
theorem much_no {l : List (List UInt8)} {k : Nat} (h : 254 < (wires (l.take k)).length) : ¬ ok l := fun ho => by
  have h1 := wires_take l k
  have h2 := ho.2
  rw [names_len] at h2
  omega
theorem ok_yes {l : List (List UInt8)} (h1 : ¬ [] ∈ l) (h2 : ∀ x ∈ l, x.length ≤ 63) (h3 : (wires l).length ≤ 254) : ok l := by
  refine ⟨fun s hs => ⟨?_, h2 s hs⟩, by rw [names_len]; omega⟩
  rcases Nat.eq_zero_or_pos s.length with h | h
  · exact absurd (List.eq_nil_of_length_eq_zero h ▸ hs) h1
  · exact h
end Lab
theorem u8_fit {z : Int} (h : 0 ≤ z ∧ z ≤ 255) : IntKind.u8.wrap z = z := IntWalk.u8_in _ h
theorem u8_len {n : Nat} (h : n ≤ 63) : Value.int .u8 (n : Int) = Value.int .u8 ((UInt8.ofNat n).toNat : Int) := by rw [Lab.ofNat_len h]
set_option maxHeartbeats 4000000 in
set_option maxRecDepth 20000 in
theorem rjoinl_any (l : List (List UInt8)) (A : Option Addr) (n c B : Nat) (w : World) (h : Rd w B 1 A n (Tt l)) (hB : B ≤ w.heap.size) (hn : n ≤ 1000000) (hl : ∀ x ∈ l, x.length ≤ 1000000) :
    Calls Tryd.prog 25 #[.slice A n c] w (TxE (Lab.join l).1 (Lab.join l).2 w) := by
  have hlen : l.length = n := by have h1 := h.len1; rwa [Tt_len] at h1
  have HL := Lib.hid hlen
  have HS := Lib.hid hl
  clear hlen hl
  go_enter Tryd.func25, Tryd.ntmps25
  go_wp2
  go_loop [4] (fun i => ∃ k : Nat, k ≤ n ∧ i = .int .i64 (k : Int) ∧ Hid (¬ [] ∈ l.take k)) (fun i => n - (intOf i).toNat)
  case atStart => exact ⟨0, by omega, rfl, Lib.hid (by simp)⟩
  case round =>
    obtain ⟨k, hk, rfl, HNO⟩ := hrel
    have hk0 : (0 : Int) ≤ (k : Int) := by omega
    by_cases hlt : k < n
    · obtain ⟨bk, ok', x, rfl, hbk, hx, hc⟩ := h.atT hlt
      have HX := Lib.hid hx
      clear hx
      by_cases hx0 : x = []
      · have CN := Lib.hid (Lab.join_nil (k := k) (by rw [HX.out, hx0]))
        have q : (strB x == (⟨#[]⟩ : ByteArray)) = true := by rw [hx0]; rfl
        have q2 : x.isEmpty = true := by rw [hx0]; rfl
        clear hx0
        go_wp2
        go_ret2
        exact ⟨by rw [CN.out]; rfl, Below.refl _ _⟩
      · have q : (strB x == (⟨#[]⟩ : ByteArray)) = false := by have h1 := strB_beq x []; rw [decide_eq_false hx0] at h1; exact h1
        have q2 : x.isEmpty = false := by cases x with | nil => exact absurd rfl hx0 | cons a b => rfl
        have HN2 : Hid (¬ [] ∈ l.take (k + 1)) := Lib.hid (by
          rw [take_len HX.out]
          intro hm
          rcases List.mem_append.1 hm with hm | hm
          · exact HNO.out hm
          · exact hx0 (List.mem_singleton.1 hm).symm)
        clear hx0
        go_wp2
        go_round
        case rel => exact ⟨k + 1, by omega, by go_num, HN2⟩
        case measure => simp [intOf]; omega
    · have hkk : ¬ (k : Int) < (n : Int) := by omega
      have HNE : Hid (¬ [] ∈ l) := Lib.hid (by have h1 := HNO.out; rwa [List.take_of_length_le (by have := HL.out; omega)] at h1)
      clear HNO
      go_wp2
      go_loopw [5, 6] (fun o i wr => ∃ k : Nat, k ≤ n ∧ i = .int .i64 (k : Int) ∧ o = .string (strB (Lab.wires (l.take k))) ∧ Hid (∀ x ∈ l.take k, x.length ≤ 63) ∧ Hid ((Lab.wires (l.take k)).length ≤ 400) ∧ Below w.heap.size w wr) (fun _ i _ => n - (intOf i).toNat)
      case atStart => exact ⟨0, by omega, rfl, rfl, Lib.hid (by simp), Lib.hid (by simp [Lab.wires]), Below.refl _ _⟩
      case round =>
        obtain ⟨k, hk, rfl, rfl, HF, HW, bl⟩ := hrel
        have hk0 : (0 : Int) ≤ (k : Int) := by omega
        obtain ⟨t, ht⟩ : ∃ t, Lab.wires (l.take k) = t := ⟨_, rfl⟩
        rw [ht] at HW ⊢
        have HT := Lib.hid ht
        clear ht
        have hts : (strB t).size = t.length := strB_sz t
        have htl := HW.out
        have hts2 : (strB t).size ≤ 400 := by omega
        have HTS := Lib.hid hts
        clear hts
        have R := h.below (bl.mono hB)
        by_cases hlt2 : k < n
        · obtain ⟨bk, ok', x, rfl, hbk, hx, hc⟩ := R.atT hlt2
          have HX := Lib.hid hx
          have hxs : (strB x).size = x.length := strB_sz x
          have hxm := HS.out x (List.mem_of_getElem? hx)
          have hxs2 : (strB x).size ≤ 1000000 := by omega
          have HXS := Lib.hid hxs
          clear hx hxs
          by_cases h63 : 63 < (strB x).size
          · have CN := Lib.hid (Lab.join_no HNE.out (Lab.long_no HX.out (by have := HXS.out; omega)))
            go_wp2
            go_ret2
            exact ⟨by rw [CN.out]; rfl, bl⟩
          by_cases h255 : 255 < (strB t).size
          · have CN := Lib.hid (Lab.join_no HNE.out (Lab.much_no (k := k) (by rw [HT.out]; have := HTS.out; omega)))
            go_wp2
            go_ret2
            exact ⟨by rw [CN.out]; rfl, bl⟩
          have hx63 : x.length ≤ 63 := by have := HXS.out; omega
          have cz : IntKind.u8.wrap (((strB x).size : Nat) : Int) = (((strB x).size : Nat) : Int) := u8_fit (by omega)
          obtain ⟨bb, hbb⟩ : ∃ bb, UInt8.ofNat x.length = bb := ⟨_, rfl⟩
          have ez : U [bb] = [.int .u8 (((strB x).size : Nat) : Int)] := by
            show [Value.int .u8 (bb.toNat : Int)] = _
            rw [← hbb, Lab.ofNat_len hx63, HXS.out]
          have E1 : ∀ w0 : World, (convert 44 9 (.slice (some ⟨w0.heap.size, 0, none⟩) 1 1)).run Tryd.prog (w0.alloc (.cells #[.int .u8 (((strB x).size : Nat) : Int)] 5)).drew = .ok (.string (strB [bb])) (w0.alloc (.cells #[.int .u8 (((strB x).size : Nat) : Int)] 5)).drew := fun w0 =>
            run_str 44 9 5 Tryd.underlying44 Tryd.underlying5 Tryd.underlying9 (l := [bb]) (B := w0.heap.size + 1) (by rw [ez]; exact (Rd.lit w0 #[.int .u8 (((strB x).size : Nat) : Int)] 5 1 1 rfl).drew)
          obtain ⟨t1, ht1⟩ : ∃ t1, t ++ [bb] = t1 := ⟨_, rfl⟩
          obtain ⟨t2, ht2⟩ : ∃ t2, t1 ++ x = t2 := ⟨_, rfl⟩
          have l1 : t1.length = t.length + 1 := by rw [← ht1]; simp
          have l2 : t2.length = t.length + 1 + x.length := by rw [← ht2, List.length_append, l1]
          have A1 : ∀ w, (Op.stringOp .add (strB t) (strB [bb])).run Tryd.prog w = .ok (.string (strB t1)) w := fun w => by rw [← ht1]; exact run_two (by simp; omega)
          have A2 : ∀ w, (Op.stringOp .add (strB t1) (strB x)).run Tryd.prog w = .ok (.string (strB t2)) w := fun w => by rw [← ht2]; exact run_two (by omega)
          have HT2 : Hid (Lab.wires (l.take (k + 1)) = t2) := Lib.hid (by
            rw [take_len HX.out, Lab.wires_app, HT.out, ← ht2, ← ht1, ← hbb]
            show t ++ (Lab.wire x ++ []) = _
            simp [Lab.wire])
          have HF2 : Hid (∀ y ∈ l.take (k + 1), y.length ≤ 63) := Lib.hid (by
            rw [take_len HX.out]
            intro y hy
            rcases List.mem_append.1 hy with hy | hy
            · exact HF.out y hy
            · obtain rfl := List.mem_singleton.1 hy; exact hx63)
          have HW2 : Hid (t2.length ≤ 400) := Lib.hid (by have := HTS.out; omega)
          have bl2 := (bl.alloc bl.size (.cells #[.int .u8 (((strB x).size : Nat) : Int)] 5)).drew
          have hc2 : (wr.alloc (.cells #[.int .u8 (((strB x).size : Nat) : Int)] 5)).cell? ⟨bk, ok' + k, none⟩ = some (.string (strB x)) := by
            rw [World.cell?_alloc_lt wr _ ⟨bk, ok' + k, none⟩ (by show bk < _; have := bl.size; omega)]
            exact hc
          clear hbb ez ht1 ht2 l1 l2 hxm htl hx63 HF R
          go_wp2_with fail
          go_region
          go_wp2
          go_roundw
          case rel => exact ⟨k + 1, by omega, by go_num, by rw [HT2.out], HF2, by rw [HT2.out]; exact HW2, bl2⟩
          case measure => simp [intOf]; omega
        · have hkk2 : ¬ (k : Int) < (n : Int) := by omega
          have e1 : l.take k = l := List.take_of_length_le (by have := HL.out; omega)
          have HTN : Hid (Lab.wires l = t) := Lib.hid (by rw [← HT.out, e1])
          have HFN : Hid (∀ y ∈ l, y.length ≤ 63) := Lib.hid (by have h1 := HF.out; rwa [e1] at h1)
          clear e1
          by_cases h254 : 254 < (strB t).size
          · have CN := Lib.hid (Lab.join_no HNE.out (Lab.much_no (k := k) (by rw [HT.out]; have := HTS.out; omega)))
            go_wp2
            go_ret2
            exact ⟨by rw [CN.out]; rfl, bl⟩
          · have CN : Hid (Lab.join l = (t ++ [0], 0)) := Lib.hid (by rw [Lab.join_ok (Lab.ok_yes HNE.out HFN.out (by rw [HTN.out]; have := HTS.out; omega))]; unfold Lab.names; rw [HTN.out])
            have A3 : ∀ w, (Op.stringOp .add (strB t) ⟨#[0]⟩).run Tryd.prog w = .ok (.string (strB (t ++ [0]))) w := fun w => run_two (b := [0]) (by simp; omega)
            clear htl
            go_wp2
            go_ret2
            exact ⟨by rw [CN.out]; rfl, bl⟩
end Go.Proofs.YtillnjhmdgmgeaaDoor
