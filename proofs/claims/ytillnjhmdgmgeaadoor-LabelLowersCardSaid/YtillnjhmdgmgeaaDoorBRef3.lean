/- The document's labels: in small letters; are two lists of texts the same. -/
import Derived.Test.YtillnjhmdgmgeaaDoorBRef2
import Derived.Deep.QuietTactic
namespace Go.Proofs.YtillnjhmdgmgeaaDoor
set_option linter.unusedVariables false
set_option linter.unusedSimpArgs false
open Go.RowKit
set_option maxHeartbeats 2000000 in
theorem rtexts_any (l l' : List (List UInt8)) (A A' : Option Addr) (n n' c c' B B' : Nat) (w : World) (h : Rd w B 1 A n (Tt l)) (h' : Rd w B' 1 A' n' (Tt l')) (hn : n ≤ 1000000) :
    Calls Tryd.prog 15 #[.slice A n c, .slice A' n' c'] w (BoB (decide (l = l')) w) := by
  have hl : l.length = n := by have := h.len1; rwa [Tt_len] at this
  have hl' : l'.length = n' := by have := h'.len1; rwa [Tt_len] at this
  have HL := Lib.hid hl
  have HL' := Lib.hid hl'
  clear hl hl'
  by_cases hnn : n = n'
  · subst hnn
    go_enter Tryd.func15, Tryd.ntmps15
    go_wp2
    go_loopw [5] (fun i wr => ∃ k q : Nat, k ≤ n ∧ i = .int .i64 k ∧ l.take k = l'.take k ∧ wr = w.drewN q) (fun i _ => n - (intOf i).toNat)
    case atStart => exact ⟨0, 0, by omega, rfl, rfl, rfl⟩
    case round =>
      obtain ⟨k, q, hk, rfl, hno, rfl⟩ := hrel
      have HN := Lib.hid hno
      clear hno
      by_cases hlt : k < n
      · obtain ⟨b, o, x, e1, hb, hx, c0⟩ := h.atT hlt
        obtain ⟨b', o', y, e2, hb', hy, d0⟩ := h'.atT hlt
        subst e1 e2
        have HX := Lib.hid hx
        have HY := Lib.hid hy
        clear hx hy
        have hk0 : (0 : Int) ≤ (k : Int) := by omega
        by_cases hxy : x = y
        · subst hxy
          go_wp2
          go_quiet (fail)
          go_wp2
          go_roundw
          case rel => exact ⟨k + 1, q + nq, by omega, by go_num, by rw [take_more HX.out, take_more HY.out, HN.out], by simp⟩
          case measure => simp [intOf]; omega
        · have hne : l ≠ l' := fun e => by
            have h1 := HX.out
            rw [e, HY.out] at h1
            injection h1 with h1
            exact hxy h1.symm
          have HNE := Lib.hid hne
          have t1 : (strB x != strB y) = true := by rw [strB_bne]; exact decide_eq_true hxy
          have t2 : (strB x == strB y) = false := by rw [strB_beq]; exact decide_eq_false hxy
          have t3 : (x == y) = false := beq_eq_false_iff_ne.2 hxy
          have t4 : (x != y) = true := bne_iff_ne.2 hxy
          clear hne hxy
          go_wp2
          go_quiet (fail)
          go_wp2
          go_ret
          exact ⟨ret_bool (decide_eq_false HNE.out).symm, kdrewB (kdrewB (Below.refl _ _) _) _⟩
      · have he : l = l' := by
          have h1 := HN.out
          rwa [List.take_of_length_le (by have := HL.out; omega), List.take_of_length_le (by have := HL'.out; omega)] at h1
        have HE := Lib.hid he
        clear he
        go_wp2
        go_ret
        exact ⟨ret_bool (decide_eq_true HE.out).symm, kdrewB (Below.refl _ _) _⟩
  · have t1 : ((n : Int) != (n' : Int)) = true := by rw [bne_iff_ne]; omega
    have hne : l ≠ l' := fun e => by
      have h1 := HL.out
      rw [e, HL'.out] at h1
      exact hnn h1.symm
    have HNE := Lib.hid hne
    clear hne hnn
    go_enter Tryd.func15, Tryd.ntmps15
    go_wp2
    go_ret
    exact ⟨ret_bool (decide_eq_false HNE.out).symm, Below.refl _ _⟩
/-! ### Bytes of one's own, each of which may be written -/
def Lo (w : World) (b : Nat) (l : List UInt8) : Prop := b < w.heap.size ∧ ∀ j x, l[j]? = some x → w.cell? ⟨b, j, none⟩ = some (.int .u8 (x.toNat : Int)) ∧ w.frozen? ⟨b, j, none⟩ = false
theorem Lo.below {w w' : World} {b B : Nat} {l : List UInt8} (h : Lo w b l) (hb : Below B w w') (hB : b < B) : Lo w' b l := by
  refine ⟨Nat.lt_of_lt_of_le h.1 hb.size, fun j x hx => ?_⟩
  obtain ⟨h1, h2⟩ := h.2 j x hx
  refine ⟨(hb.cell (p := ⟨b, j, none⟩) hB).trans h1, ?_⟩
  rw [← h2]
  unfold World.frozen?
  rw [show w'.heap[(⟨b, j, none⟩ : Addr).block]? = w.heap[(⟨b, j, none⟩ : Addr).block]? from hb.block b hB]
theorem Lo.set {w : World} {b k : Nat} {l : List UInt8} (h : Lo w b l) (y : UInt8) : Lo (w.setCell ⟨b, k, none⟩ (.int .u8 (y.toNat : Int))) b (l.set k y) := by
  refine ⟨by simpa using h.1, fun j x hx => ?_⟩
  by_cases e : k = j
  · subst e
    have hk : k < l.length := by
      have h1 := (List.getElem?_eq_some_iff.1 hx).1
      rwa [List.length_set] at h1
    obtain rfl : y = x := by rw [List.getElem?_set_self hk] at hx; injection hx
    obtain ⟨h1, h2⟩ := h.2 k _ (List.getElem?_eq_getElem hk)
    exact ⟨World.cell?_setCell_same' w _ _ (by rw [h1]; rfl), by rw [World.frozen?_setCell]; exact h2⟩
  · rw [List.getElem?_set_ne e] at hx
    obtain ⟨h1, h2⟩ := h.2 j x hx
    exact ⟨(World.cell?_setCell_other w _ _ _ (by intro h3; injection h3 with _ h4; exact e h4)).trans h1, by rw [World.frozen?_setCell]; exact h2⟩
theorem Lo.rd {w : World} {b : Nat} {l : List UInt8} (h : Lo w b l) : Rd w w.heap.size 1 (some ⟨b, 0, none⟩) l.length (U l) := by
  refine ⟨by simp [U_length], fun _ => ⟨b, 0, rfl, h.1, fun j hj => ?_⟩⟩
  rw [U_length] at hj
  obtain ⟨x, hx⟩ : ∃ x, l[j]? = some x := ⟨_, List.getElem?_eq_getElem hj⟩
  rw [Nat.zero_add, (h.2 j x hx).1, U_get, hx]
  rfl
theorem Lo.new (w : World) (l : List UInt8) : Lo (w.drew.alloc (strO w (strB l))) w.heap.size l := by
  refine ⟨by simp, fun j x hx => ?_⟩
  have hj := (List.getElem?_eq_some_iff.1 hx).1
  have R := Rd.bytes w l
  obtain ⟨b, o, e, _, hc⟩ := R.at1 hj
  obtain ⟨rfl, rfl⟩ : w.heap.size = b ∧ 0 = o := by simpa using e
  have h1 := hc j hj
  rw [Nat.zero_add] at h1
  refine ⟨by rw [h1, U_get, hx]; rfl, ?_⟩
  have h2 := World.frozen?_alloc_mark w.drew (bytesRow (strB l) (strC w (strB l))) 5 (bytesRow (strB l) (strC w (strB l))).size ((bytesRow (strB l) (strC w (strB l))).size + 1) j
  have h3 : j < (bytesRow (strB l) (strC w (strB l))).size := by
    have h4 := bytesRow_at (strB l) (strC w (strB l)) j (by simpa [strB] using hj)
    exact (Array.getElem?_eq_some_iff.1 h4).1
  unfold strO
  rw [show w.heap.size = w.drew.heap.size from rfl, h2]
  simp
  omega
namespace Lab
theorem low_step {s : List UInt8} {k : Nat} {x : UInt8} (h : s[k]? = some x) : (low (s.take k) ++ s.drop k).set k (lowB x) = low (s.take (k + 1)) ++ s.drop (k + 1) := by
  have hk := (List.getElem?_eq_some_iff.1 h).1
  have hl : (low (s.take k)).length = k := by rw [low_len, List.length_take]; omega
  have hd : s.drop k = x :: s.drop (k + 1) := by
    rw [List.drop_eq_getElem_cons hk]
    congr 1
    have h1 := List.getElem?_eq_getElem hk
    rw [h] at h1
    injection h1 with h1
    exact h1.symm
  rw [List.set_append_right k _ (by omega), hl, Nat.sub_self, hd, List.set_cons_zero, take_more h]
  unfold low
  rw [List.map_append, List.append_assoc]
  rfl
theorem low_at {s : List UInt8} {k : Nat} {x : UInt8} (h : s[k]? = some x) : (low (s.take k) ++ s.drop k)[k]? = some x := by
  have hk := (List.getElem?_eq_some_iff.1 h).1
  have hl : (low (s.take k)).length = k := by rw [low_len, List.length_take]; omega
  rw [List.getElem?_append_right (by omega), hl, Nat.sub_self, List.getElem?_drop, Nat.add_zero]
  exact h
theorem low_mid_len (s : List UInt8) (k : Nat) : (low (s.take k) ++ s.drop k).length = s.length := by rw [List.length_append, low_len, List.length_take, List.length_drop]; omega
theorem lowB_no {c : UInt8} (h : ¬ (65 ≤ c.toNat ∧ c.toNat ≤ 90)) : lowB c = c := if_neg h
end Lab
theorem u8_of' {z : Int} (h : 0 ≤ z ∧ z ≤ 255) : IntKind.u8.wrap z = z := IntWalk.u8_in _ h
set_option maxHeartbeats 4000000 in
set_option maxRecDepth 20000 in
theorem rlower_any (s : List UInt8) (hs : s.length ≤ 100000) (w : World) : Calls Tryd.prog 19 #[.string (strB s)] w (TxO (Lab.lower s) w) := by
  obtain ⟨n, hn⟩ : ∃ n, s.length = n := ⟨_, rfl⟩
  have hsz : (strB s).size = n := by rw [strB_sz, hn]
  have HN := Lib.hid hn
  have hby := run_bytes w (strB s)
  rw [hsz] at hby
  have L0 : Lo (w.alloc (strO w (strB s))).drew w.heap.size s := Lo.new w s
  have b0 : Below w.heap.size w (w.alloc (strO w (strB s))).drew := ((Below.refl w.heap.size w).alloc (Nat.le_refl _) (strO w (strB s))).drew
  have hnm : n ≤ 100000 := by omega
  obtain ⟨cp, hcp⟩ : ∃ cp, strC w (strB s) = cp := ⟨_, rfl⟩
  rw [hcp] at hby
  clear hn hs hcp
  go_enter Tryd.func19, Tryd.ntmps19
  go_wp2
  generalize (w.alloc (strO w (strB s))).drew = w1 at *
  go_loopw [4] (fun i wr => ∃ k : Nat, k ≤ n ∧ i = .int .i64 (k : Int) ∧ Lo wr w.heap.size (Lab.low (s.take k) ++ s.drop k) ∧ Hid (k = 0 ∨ Lab.right s = true) ∧ Below w.heap.size w wr) (fun i _ => n - (intOf i).toNat)
  case atStart => exact ⟨0, by omega, rfl, by simpa [Lab.low] using L0, Lib.hid (Or.inl rfl), b0⟩
  case round =>
    clear L0 b0
    obtain ⟨k, hk, rfl, L, HR, bl⟩ := hrel
    have hk0 : (0 : Int) ≤ (k : Int) := by omega
    have stop : Hid (k = n ∨ Lab.right s = false) → Hid (Lab.low (s.take k) ++ s.drop k = Lab.lower s) := fun h => Lib.hid (by
      have hl := HN.out
      rcases HR.out with h0 | h0
      · subst h0
        rcases h.out with h1 | h1
        · have : s = [] := List.eq_nil_of_length_eq_zero (by omega)
          subst this
          unfold Lab.lower
          split <;> rfl
        · rw [Lab.lower_no h1]; simp [Lab.low]
      · rcases h.out with h1 | h1
        · unfold Lab.lower
          rw [if_pos h0, List.take_of_length_le (by omega), List.drop_of_length_le (by omega), List.append_nil]
        · rw [h0] at h1; cases h1)
    have ES : ∀ (t : List UInt8), Lab.low (s.take k) ++ s.drop k = t → ∀ wr', Lo wr' w.heap.size t → (convert 44 9 (.slice (some ⟨w.heap.size, 0, none⟩) n cp)).run Tryd.prog wr' = .ok (.string (strB t)) wr' := fun t ht wr' hL => by
      have hlen : t.length = n := by rw [← ht, Lab.low_mid_len, HN.out]
      have R := hL.rd
      rw [hlen] at R
      exact run_str 44 9 5 Tryd.underlying44 Tryd.underlying5 Tryd.underlying9 R
    by_cases hlt : k < n
    · obtain ⟨x, hx⟩ : ∃ x, s[k]? = some x := ⟨_, List.getElem?_eq_getElem (by rw [HN.out]; exact hlt)⟩
      have HX := Lib.hid hx
      clear hx
      have g3 : decide (k < n) = true := decide_eq_true hlt
      have g1 : decide ((k : Int) < (n : Int)) = true := decide_eq_true (by omega)
      cases hr : Lab.right s with
      | false =>
        have ST := stop (Lib.hid (Or.inr hr))
        have HRF := Lib.hid hr
        clear hr stop
        obtain ⟨t, ht⟩ : ∃ t, Lab.lower s = t := ⟨_, rfl⟩
        have HTT := Lib.hid ht
        rw [ht] at ST
        clear ht
        rw [ST.out] at L
        go_wp2_with fail
        have ct := rlright_any s (by rw [HN.out]; omega) wr
        rw [HRF.out] at ct
        refine ct.mono ?_
        rintro e w2 ⟨rfl, hb⟩
        replace L := L.below hb L.1
        replace bl := bl.trans (hb.mono bl.size)
        have E := ES t ST.out w2 L
        clear hb ES ct
        go_wp2
        go_ret
        exact ⟨by rw [HTT.out]; rfl, bl⟩
      | true =>
        have HRT := Lib.hid hr
        clear hr stop ES
        go_wp2_with fail
        have ct := rlright_any s (by rw [HN.out]; omega) wr
        rw [HRT.out] at ct
        refine ct.mono ?_
        rintro e w2 ⟨rfl, hb⟩
        replace L := L.below hb L.1
        replace bl := bl.trans (hb.mono bl.size)
        clear hb ct
        obtain ⟨c0, f0⟩ := L.2 k x (Lab.low_at HX.out)
        have HST := Lib.hid (Lab.low_step HX.out)
        obtain ⟨ci, hci⟩ : ∃ z : Int, (x.toNat : Int) = z := ⟨_, rfl⟩
        rw [hci] at c0
        have hx256 : x.toNat < 256 := x.toNat_lt
        by_cases hg : 65 ≤ x.toNat ∧ x.toNat ≤ 90
        · have t1 : decide (65 ≤ ci) = true := decide_eq_true (by omega)
          have t2 : decide (ci ≤ 90) = true := decide_eq_true (by omega)
          have e1 : ((Lab.lowB x).toNat : Int) = ci + 32 := by rw [Lab.lowB_nat, if_pos hg]; omega
          have L2 := L.set (k := k) (Lab.lowB x)
          rw [HST.out, e1] at L2
          have u1 : IntKind.u8.wrap (ci + 32) = ci + 32 := u8_of' (by omega)
          have b2 := below_set (o := k) bl (Nat.le_refl _) (.int .u8 (ci + 32))
          clear hg hci e1 hx256 L bl
          go_wp2
          go_roundw
          case rel => exact ⟨k + 1, by omega, by go_num, L2, Lib.hid (Or.inr (by first | trivial | exact HRT.out)), b2⟩
          case measure => simp [intOf]; omega
        · have e1 := Lab.lowB_no hg
          have L2 : Lo w2 w.heap.size (Lab.low (s.take (k + 1)) ++ s.drop (k + 1)) := by
            rw [← HST.out, e1]
            have h1 := Lab.low_at HX.out
            have h2 : (Lab.low (s.take k) ++ s.drop k).set k x = Lab.low (s.take k) ++ s.drop k := by
              refine List.ext_getElem? fun j => ?_
              by_cases e : k = j
              · subst e; rw [List.getElem?_set_self (List.getElem?_eq_some_iff.1 h1).1, h1]
              · rw [List.getElem?_set_ne e]
            rw [h2]
            exact L
          by_cases ha : 65 ≤ x.toNat
          · have t1 : decide (65 ≤ ci) = true := decide_eq_true (by omega)
            have t2 : decide (ci ≤ 90) = false := decide_eq_false (by omega)
            clear hg hci e1 hx256 ha L
            go_wp2
            go_roundw
            case rel => exact ⟨k + 1, by omega, by go_num, L2, Lib.hid (Or.inr (by first | trivial | exact HRT.out)), bl⟩
            case measure => simp [intOf]; omega
          · have t1 : decide (65 ≤ ci) = false := decide_eq_false (by omega)
            clear hg hci e1 hx256 ha L
            go_wp2
            go_roundw
            case rel => exact ⟨k + 1, by omega, by go_num, L2, Lib.hid (Or.inr (by first | trivial | exact HRT.out)), bl⟩
            case measure => simp [intOf]; omega
    · have hkn : k = n := by omega
      have ST := stop (Lib.hid (Or.inl hkn))
      have g3 : decide (k < n) = false := decide_eq_false hlt
      have g1 : decide ((k : Int) < (n : Int)) = false := decide_eq_false (by omega)
      obtain ⟨t, ht⟩ : ∃ t, Lab.lower s = t := ⟨_, rfl⟩
      have HTT := Lib.hid ht
      rw [ht] at ST
      clear ht
      rw [ST.out] at L
      have E := ES t ST.out wr L
      clear stop ES hkn hlt
      go_wp2
      go_ret
      exact ⟨by rw [HTT.out]; rfl, bl⟩
end Go.Proofs.YtillnjhmdgmgeaaDoor
