/- Package label: the labels of a name; small letters; the same name. -/
import Derived.Test.YtillnjhmdgmgeaaDoorBC1
namespace Go.Proofs.YtillnjhmdgmgeaaDoor
set_option linter.unusedVariables false
set_option linter.unusedSimpArgs false
open Go.RowKit
theorem run_tail {w : World} {l : List UInt8} {a : Nat} {i : Int} (hi : i = a) (h : a ≤ l.length) : (Instr.slice 9 (.string (strB l)) (some (.int .i64 i)) none none).run Tryd.prog w = .ok (.string (strB (l.drop a))) w := by
  subst hi
  rw [run_slice_string_from_if w 9 (strB l) .i64 a Tryd.underlying9, if_pos ⟨by omega, by rw [strB_sz]; omega⟩]
  have e : (strB l).extract ((a : Int)).toNat (strB l).size = strB (l.drop a) := by
    rw [strB_cut, strB_sz]
    show strB (List.take (l.length - a) (List.drop a l)) = _
    rw [List.take_of_length_le (by simp)]
  rw [e]
theorem cright_at {s : List UInt8} {z : Bool} (e : Lab.right s = z) (hs : s.length ≤ 1100000) (w : World) : Calls Tryd.prog 13 #[.string (strB s)] w (BoB z w) := by have h := cright_any s hs w; rw [e] at h; exact h
namespace Lab
theorem names_head {x : List UInt8} {r : List (List UInt8)} : names (x :: r) = UInt8.ofNat x.length :: (x ++ names r) := by
  unfold names
  rw [wires_cons]
  unfold wire
  simp
end Lab
set_option maxHeartbeats 4000000 in
set_option maxRecDepth 20000 in
theorem bllabels_any (s : List UInt8) (hs : s.length ≤ 100000) (w : World) : Calls Tryd.prog 16 #[.string (strB s)] w (LabR (Lab.labels s) w) := by
  cases hr : Lab.right s with
  | false =>
    have HE := Lib.hid (Lab.labels_no hr)
    have HR := Lib.hid hr
    clear hr
    go_enter Tryd.func16, Tryd.ntmps16
    go_wp2_with fail
    refine (cright_at HR.out (by omega) w).mono ?_
    rintro e w1 ⟨rfl, h1⟩
    go_wp2
    go_ret
    exact ⟨⟨none, 0, 0, rfl, by rw [HE.out]; rfl, by rw [HE.out]; exact Rd.zero _ _ _ _, by omega, by omega⟩, h1⟩
  | true =>
    obtain ⟨l, ol, hl⟩ := Lab.right_iff.1 hr
    have HR := Lib.hid hr
    have HE : Hid (Lab.labels s = l) := Lib.hid (by rw [← hl]; exact Lab.labels_names ol)
    have OL := Lib.hid ol
    have HL := Lib.hid hl
    clear hr hl ol
    go_enter Tryd.func16, Tryd.ntmps16
    go_wp2_with fail
    refine (cright_at HR.out (by omega) w).mono ?_
    rintro e w1 ⟨rfl, h1⟩
    go_wp2
    go_loopw [0, 3] (fun t v wr => ∃ (m : Nat) (A : Option Addr) (c : Nat) (o r : List (List UInt8)), m ≤ 300 ∧ t = .string (strB (Lab.names r)) ∧ v = .slice A m c ∧ Hid (l = o ++ r) ∧ wr.ownsRow w.heap.size 9 1 (.slice A m c) m (Tt o) ∧ Below w.heap.size w wr) (fun _ v _ => 400 - (match v with | .slice _ m _ => m | _ => 0))
    case atStart => exact ⟨0, none, 0, [], l, by omega, by rw [HL.out], rfl, Lib.hid rfl, World.ownsRow_nil _ _ _ _, h1⟩
    case round =>
      clear h1
      obtain ⟨m, A, c, o, r, hm, rfl, rfl, HA, own, bl⟩ := hrel
      have hml : (Tt o).length = m := by have := own.1; rwa [Nat.mul_one] at this
      have HO := Lib.hid hml
      clear hml
      cases r with
      | nil =>
        have IXA : ∀ w, (Instr.index 9 (.string (strB (Lab.names []))) (.int .i64 0)).run Tryd.prog w = .ok (.int .u8 0) w := fun w => run_chr (k := 0) (x := 0) rfl
        have R := Rd.of_own own
        have hc := own_cap own
        have EQ : Hid (Lab.labels s = o) := Lib.hid (by rw [HE.out, HA.out]; simp)
        generalize strB (Lab.names []) = z at *
        clear own HA
        go_wp2
        go_ret
        exact ⟨⟨A, m, c, rfl, by rw [EQ.out]; have := HO.out; rw [Tt_len] at this; exact this.symm, by rw [EQ.out]; exact R, hc.1, hc.2⟩, bl⟩
      | cons x r =>
        have hx : Lab.okL x := OL.out.1 x (by rw [HA.out]; simp)
        have hxl := hx.2
        have hxp := hx.1
        have hm2 : m + 1 ≤ 300 := by
          have h2 := Lab.ok_few OL.out
          rw [HA.out, List.length_append, List.length_cons] at h2
          have := HO.out
          rw [Tt_len] at this
          omega
        obtain ⟨y, hy⟩ : ∃ y, x.length = y := ⟨_, rfl⟩
        rw [hy] at hxl hxp
        obtain ⟨ci, hci⟩ : ∃ z : Int, (y : Int) = z := ⟨_, rfl⟩
        obtain ⟨k1, hk1⟩ : ∃ z : Int, 1 + ci = z := ⟨_, rfl⟩
        have e8 : (UInt8.ofNat x.length).toNat = y := by rw [hy]; exact Lab.ofNat_len hxl
        have IXA : ∀ w, (Instr.index 9 (.string (strB (Lab.names (x :: r)))) (.int .i64 0)).run Tryd.prog w = .ok (.int .u8 ci) w := fun w => by
          have h1 := run_chr (w := w) (l := Lab.names (x :: r)) (k := 0) (x := UInt8.ofNat x.length) (by rw [Lab.names_head]; rfl)
          rw [e8, hci] at h1
          exact h1
        have hln : (Lab.names (x :: r)).length = 1 + y + (Lab.names r).length := by rw [Lab.names_head]; simp; omega
        have IXP : ∀ w, (Instr.slice 9 (.string (strB (Lab.names (x :: r)))) (some (.int .i64 1)) (some (.int .i64 k1)) none).run Tryd.prog w = .ok (.string (strB x)) w := fun w => by
          have h1 := run_part (w := w) (l := Lab.names (x :: r)) (a := 1) (b := 1 + y) (i := 1) (j := k1) rfl (by omega) (by omega) (by omega)
          rw [Lab.names_head] at h1
          simp only [List.drop_succ_cons, List.drop_zero] at h1
          rw [show 1 + y - 1 = x.length by omega, List.take_left] at h1
          rw [Lab.names_head]
          exact h1
        have IXT : ∀ w, (Instr.slice 9 (.string (strB (Lab.names (x :: r)))) (some (.int .i64 k1)) none none).run Tryd.prog w = .ok (.string (strB (Lab.names r))) w := fun w => by
          have h1 := run_tail (w := w) (l := Lab.names (x :: r)) (a := 1 + y) (i := k1) (by omega) (by omega)
          rw [Lab.names_head] at h1
          rw [show 1 + y = x.length + 1 by omega, List.drop_succ_cons, List.drop_left] at h1
          rw [Lab.names_head]
          exact h1
        have g4 : (ci != 0) = true := by rw [bne_iff_ne]; omega
        have CV : Hid (IntKind.i64.wrap ci = ci) := Lib.hid (i64_of (by omega) (by omega))
        have U1 : Hid (wrap64 (1 + ci) = k1 ∧ IntKind.i64.wrap (1 + ci) = k1) := Lib.hid ⟨by rw [← hk1]; exact w64_of (by omega) (by omega), by rw [← hk1]; exact i64_of (by omega) (by omega)⟩
        generalize strB (Lab.names (x :: r)) = z at *
        have own1 := own.alloc (.cells #[.string (strB x)] 9)
        have R1 : Rd (wr.alloc (.cells #[.string (strB x)] 9)) (wr.heap.size + 1) 1 (some ⟨wr.heap.size, 0, none⟩) 1 (Tt [x]) := Rd.one wr (.string (strB x)) 9
        have bl1 := bl.alloc bl.size (.cells #[.string (strB x)] 9)
        have hsz1 : w.heap.size ≤ (wr.alloc (.cells #[.string (strB x)] 9)).heap.size := bl1.size
        have HA2 : Hid (l = (o ++ [x]) ++ r) := Lib.hid (by rw [HA.out]; simp)
        clear HA own hx hy hci hk1 hxl hxp e8 hln
        obtain ⟨u1, u2⟩ := U1.out
        have cv := CV.out
        go_wp2_with (at_builtin; refine app_law strT rfl (.tmp 15) (.tmp 19) rfl w.heap.size rfl own1 rfl R1 (Tt_one [x]) (by omega) (by omega) hsz1 ?_; rintro A2 c2 w2 ⟨own2, hg2, _, _⟩)
        go_roundw
        case rel => exact ⟨m + 1, A2, c2, o ++ [x], r, hm2, rfl, rfl, HA2, by rw [Tt_app]; exact own2, below_app bl1 own1 hg2 (Nat.le_refl _) hsz1⟩
        case measure => simp only []; omega
theorem clabels_at {s : List UInt8} {l : List (List UInt8)} (e : Lab.labels s = l) (hs : s.length ≤ 100000) (w : World) : Calls Tryd.prog 16 #[.string (strB s)] w (LabR l w) := by have h := bllabels_any s hs w; rw [e] at h; exact h
set_option maxHeartbeats 4000000 in
set_option maxRecDepth 20000 in
theorem bllower_any (s : List UInt8) (hs : s.length ≤ 100000) (w : World) : Calls Tryd.prog 18 #[.string (strB s)] w (TxO (Lab.lower s) w) := by
  cases hr : Lab.right s with
  | false =>
    have HE := Lib.hid (Lab.lower_no hr)
    have HR := Lib.hid hr
    clear hr
    go_enter Tryd.func18, Tryd.ntmps18
    go_wp2_with fail
    refine (cright_at HR.out (by omega) w).mono ?_
    rintro e w1 ⟨rfl, h1⟩
    go_wp2
    go_ret
    exact ⟨by rw [HE.out]; rfl, h1⟩
  | true =>
    have HR := Lib.hid hr
    clear hr
    obtain ⟨n, hn⟩ : ∃ n, s.length = n := ⟨_, rfl⟩
    have hsz : (strB s).size = n := by rw [strB_sz, hn]
    have HN := Lib.hid hn
    have hnm : n ≤ 100000 := by omega
    clear hn
    go_enter Tryd.func18, Tryd.ntmps18
    go_wp2_with fail
    refine (cright_at HR.out (by rw [HN.out]; omega) w).mono ?_
    rintro e w0 ⟨rfl, h1⟩
    have hby := run_bytes w0 (strB s)
    rw [hsz] at hby
    have L0 : Lo (w0.alloc (strO w0 (strB s))).drew w0.heap.size s := Lo.new w0 s
    have b0 : Below w.heap.size w (w0.alloc (strO w0 (strB s))).drew := (h1.alloc h1.size (strO w0 (strB s))).drew
    have h0s : w.heap.size ≤ w0.heap.size := h1.size
    obtain ⟨cp, hcp⟩ : ∃ cp, strC w0 (strB s) = cp := ⟨_, rfl⟩
    rw [hcp] at hby
    clear hs hcp h1
    go_wp2
    generalize (w0.alloc (strO w0 (strB s))).drew = w1 at *
    go_loopw [14] (fun i wr => ∃ k : Nat, k ≤ n ∧ i = .int .i64 (k : Int) ∧ Lo wr w0.heap.size (Lab.low (s.take k) ++ s.drop k) ∧ Below w.heap.size w wr) (fun i _ => n - (intOf i).toNat)
    case atStart => exact ⟨0, by omega, rfl, by simpa [Lab.low] using L0, b0⟩
    case round =>
      clear L0 b0
      obtain ⟨k, hk, rfl, L, bl⟩ := hrel
      have hk0 : (0 : Int) ≤ (k : Int) := by omega
      by_cases hlt : k < n
      · obtain ⟨x, hx⟩ : ∃ x, s[k]? = some x := ⟨_, List.getElem?_eq_getElem (by rw [HN.out]; exact hlt)⟩
        have HX := Lib.hid hx
        clear hx
        have g3 : decide (k < n) = true := decide_eq_true hlt
        have g1 : decide ((k : Int) < (n : Int)) = true := decide_eq_true (by omega)
        obtain ⟨c0, f0⟩ := L.2 k x (Lab.low_at HX.out)
        have HST := Lib.hid (Lab.low_step HX.out)
        obtain ⟨ci, hci⟩ : ∃ z : Int, (x.toNat : Int) = z := ⟨_, rfl⟩
        rw [hci] at c0
        have hx256 : x.toNat < 256 := x.toNat_lt
        by_cases hg : 65 ≤ x.toNat ∧ x.toNat ≤ 90
        · have t1 : decide (65 ≤ ci) = true := decide_eq_true (by omega)
          have t2 : decide (ci ≤ 90) = true := decide_eq_true (by omega)
          obtain ⟨z1, hz1⟩ : ∃ z : Int, ci - 65 = z := ⟨_, rfl⟩
          obtain ⟨z2, hz2⟩ : ∃ z : Int, z1 + 97 = z := ⟨_, rfl⟩
          have e1 : ((Lab.lowB x).toNat : Int) = z2 := by rw [Lab.lowB_nat, if_pos hg]; omega
          have L2 := L.set (k := k) (Lab.lowB x)
          rw [HST.out, e1] at L2
          have u1 : IntKind.u8.wrap (ci - 65) = z1 := by rw [hz1]; exact u8_of' (by omega)
          have u2 : IntKind.u8.wrap (z1 + 97) = z2 := by rw [hz2]; exact u8_of' (by omega)
          have b2 := below_set (o := k) bl (by omega) (.int .u8 z2)
          clear hg hci e1 hx256 L bl hz1 hz2
          go_wp2
          go_roundw
          case rel => exact ⟨k + 1, by omega, by go_num, L2, b2⟩
          case measure => simp [intOf]; omega
        · have e1 := Lab.lowB_no hg
          have L2 : Lo wr w0.heap.size (Lab.low (s.take (k + 1)) ++ s.drop (k + 1)) := by
            rw [← HST.out, e1]
            have h1 := Lab.low_at HX.out
            have h2 : (Lab.low (s.take k) ++ s.drop k).set k x = Lab.low (s.take k) ++ s.drop k := by
              refine List.ext_getElem? fun j => ?_
              by_cases e : k = j
              · subst e; rw [List.getElem?_set_self (List.getElem?_eq_some_iff.1 h1).1, h1]
              · rw [List.getElem?_set_ne e]
            rw [h2]
            exact L
          by_cases ha : 65 ≤ x.toNat
          · have t1 : decide (65 ≤ ci) = true := decide_eq_true (by omega)
            have t2 : decide (ci ≤ 90) = false := decide_eq_false (by omega)
            clear hg hci e1 hx256 ha L
            go_wp2
            go_roundw
            case rel => exact ⟨k + 1, by omega, by go_num, L2, bl⟩
            case measure => simp [intOf]; omega
          · have t1 : decide (65 ≤ ci) = false := decide_eq_false (by omega)
            clear hg hci e1 hx256 ha L
            go_wp2
            go_roundw
            case rel => exact ⟨k + 1, by omega, by go_num, L2, bl⟩
            case measure => simp [intOf]; omega
      · have hkn : k = n := by omega
        have g3 : decide (k < n) = false := decide_eq_false hlt
        have g1 : decide ((k : Int) < (n : Int)) = false := decide_eq_false (by omega)
        have ST : Hid (Lab.low (s.take k) ++ s.drop k = Lab.lower s) := Lib.hid (by
          have hl := HN.out
          unfold Lab.lower
          rw [if_pos HR.out, List.take_of_length_le (by omega), List.drop_of_length_le (by omega), List.append_nil])
        obtain ⟨t, ht⟩ : ∃ t, Lab.lower s = t := ⟨_, rfl⟩
        have HTT := Lib.hid ht
        rw [ht] at ST
        clear ht
        have hlen : t.length = n := by rw [← ST.out, Lab.low_mid_len, HN.out]
        rw [ST.out] at L
        have R := L.rd
        rw [hlen] at R
        have E := run_str 44 9 5 Tryd.underlying44 Tryd.underlying5 Tryd.underlying9 (c := cp) R
        clear hkn hlt hlen R
        go_wp2
        go_ret
        exact ⟨by rw [HTT.out]; rfl, bl⟩
theorem clower_at {s t : List UInt8} (e : Lab.lower s = t) (hs : s.length ≤ 100000) (w : World) : Calls Tryd.prog 18 #[.string (strB s)] w (TxO t w) := by have h := bllower_any s hs w; rw [e] at h; exact h
set_option maxHeartbeats 2000000 in
theorem blsame_any (a b : List UInt8) (ha : a.length ≤ 100000) (hb : b.length ≤ 100000) (w : World) : Calls Tryd.prog 20 #[.string (strB a), .string (strB b)] w (BoB (Lab.same a b) w) := by
  obtain ⟨za, hza⟩ : ∃ z, Lab.right a = z := ⟨_, rfl⟩
  obtain ⟨zb, hzb⟩ : ∃ z, Lab.right b = z := ⟨_, rfl⟩
  obtain ⟨ta, hta⟩ : ∃ z, Lab.lower a = z := ⟨_, rfl⟩
  obtain ⟨tb, htb⟩ : ∃ z, Lab.lower b = z := ⟨_, rfl⟩
  have EZ : Hid (Lab.same a b = (za && zb && decide (ta = tb))) := Lib.hid (by unfold Lab.same; rw [hza, hzb, hta, htb])
  obtain ⟨z, hz⟩ : ∃ z, Lab.same a b = z := ⟨_, rfl⟩
  rw [hz] at EZ ⊢
  have HZA := Lib.hid hza
  have HZB := Lib.hid hzb
  have HTA := Lib.hid hta
  have HTB := Lib.hid htb
  have b0 := Below.refl w.heap.size w
  clear hz hza hzb hta htb
  cases za
  · have EZ2 : Hid (z = false) := Lib.hid (by rw [EZ.out]; rfl)
    clear EZ
    go_enter Tryd.func20, Tryd.ntmps20
    go_wp2_with fail
    refine (cright_at HZA.out (by omega) w).mono ?_
    rintro e w1 ⟨rfl, h1⟩
    replace b0 := b0.trans (h1.mono b0.size)
    clear h1
    go_wp2
    go_ret
    exact ⟨ret_bool EZ2.out.symm, b0⟩
  cases zb
  · have EZ2 : Hid (z = false) := Lib.hid (by rw [EZ.out]; rfl)
    clear EZ
    go_enter Tryd.func20, Tryd.ntmps20
    go_wp2_with fail
    refine (cright_at HZA.out (by omega) w).mono ?_
    rintro e w1 ⟨rfl, h1⟩
    replace b0 := b0.trans (h1.mono b0.size)
    clear h1
    go_wp2_with fail
    refine (cright_at HZB.out (by omega) w1).mono ?_
    rintro e w2 ⟨rfl, h1⟩
    replace b0 := b0.trans (h1.mono b0.size)
    clear h1
    go_wp2
    go_ret
    exact ⟨ret_bool EZ2.out.symm, b0⟩
  have EZ2 : Hid ((strB ta == strB tb) = z) := Lib.hid (by rw [EZ.out, strB_beq]; simp)
  have EZ3 : Hid ((ta == tb) = z) := Lib.hid (by rw [EZ.out]; by_cases h : ta = tb <;> simp [h])
  clear EZ
  go_enter Tryd.func20, Tryd.ntmps20
  go_wp2_with fail
  refine (cright_at HZA.out (by omega) w).mono ?_
  rintro e w1 ⟨rfl, h1⟩
  replace b0 := b0.trans (h1.mono b0.size)
  clear h1
  go_wp2_with fail
  refine (cright_at HZB.out (by omega) w1).mono ?_
  rintro e w2 ⟨rfl, h1⟩
  replace b0 := b0.trans (h1.mono b0.size)
  clear h1
  go_wp2_with fail
  refine (clower_at HTA.out ha w2).mono ?_
  rintro e w3 ⟨rfl, h1⟩
  replace b0 := b0.trans (h1.mono b0.size)
  clear h1
  go_wp2_with fail
  refine (clower_at HTB.out hb w3).mono ?_
  rintro e w4 ⟨rfl, h1⟩
  replace b0 := b0.trans (h1.mono b0.size)
  clear h1
  have e1 := EZ2.out
  have e2 := EZ3.out
  go_wp2
  go_ret
  exact ⟨ret_bool (by first | exact e1 | exact e2 | simp_all), b0⟩
end Go.Proofs.YtillnjhmdgmgeaaDoor
