/- JLaw4 (merged). -/
import Derived.Deep.DeepCutAuto
import Derived.Test.YtipccalbhlhljaaJJRing
namespace Go.Proofs.Ytipccalbhlhljaa
set_option linter.unusedVariables false
set_option linter.unusedSimpArgs false
open Go.RowKit
theorem cast_min (a k : Nat) : ((min a (k + 1) : Nat) : Int) = min (a : Int) ((k : Int) + 1) := by omega
theorem cell_below2 {B : Nat} {W w : World} {q : Addr} {v : Value} (h : W.cell? q = some v) (b : Below B W w) (hlt : q.block < B) : w.cell? q = some v := (b.cell (p := q) hlt).trans h
def AheadR (W : World) (xb lb n q : Nat) (iv : Value) (wr : World) : Prop := ∃ (k : Nat) (l : List (List UInt8)) (x : Rc) (A2 : Option Addr) (n2 c2 : Nat), k ≤ n ∧ iv = .int .i64 (k : Int) ∧ l.length = q ∧ J.IsLast l x ∧ J.Held l k ∧ (x.seq = k + 1 ∧ x.gen ≤ k + 1) ∧
  Box wr xb 34 #[.slice A2 n2 c2, .int .i64 (-1), .bool false] ∧ KRd wr ⟨⟨l, -1, false⟩, A2, n2, c2⟩ ∧ Box wr lb 23 #[.int .i64 x.seq, .int .i64 x.gen, .string (strB x.note)] ∧ Below W.heap.size W wr
def WroteR (W : World) (xb lb : Nat) (l : List (List UInt8)) (x : Rc) (lq : List (List UInt8)) (k : Nat) (g : Int) (note : List UInt8) (A2 : Option Addr) (n2 c2 : Nat) (s9 s10 s11 : Value) (wx : World) : Prop := ∃ (yb rb : Nat) (A3 : Option Addr) (n3 c3 : Nat), s9 = .pointer (some ⟨yb, 0, none⟩) ∧ s10 = .pointer (some ⟨rb, 0, none⟩) ∧ s11 = .int .i64 0 ∧ (W.heap.size ≤ yb ∧ W.heap.size ≤ rb) ∧ (yb ≠ xb ∧ yb ≠ lb ∧ rb ≠ xb ∧ rb ≠ lb ∧ yb ≠ rb) ∧
  Box wx yb 34 #[.slice A3 n3 c3, .int .i64 (-1), .bool false] ∧ Box wx rb 23 #[.int .i64 ((k : Int) + 2), .int .i64 g, .string (strB note)] ∧ KRd wx ⟨⟨lq, -1, false⟩, A3, n3, c3⟩ ∧
  Box wx xb 34 #[.slice A2 n2 c2, .int .i64 (-1), .bool false] ∧ Box wx lb 23 #[.int .i64 x.seq, .int .i64 x.gen, .string (strB x.note)] ∧ Below W.heap.size W wx
set_option maxHeartbeats 16000000 in
set_option maxRecDepth 100000 in
theorem law_JournalRings (a0 : Int) (A : Option Addr) (n c : Nat) (tl0 : List Tx) (W : World) (wa0 : (Lit.int .u8 a0).wf = true) (w0 : TxRd W A n c tl0) :
    Calls Try.prog 6 #[.int .u8 a0, .slice A n c] W fun e w' => e = .returned (.bool true) ∧ Below W.heap.size W w' := by
  have hnm : n ≤ 9223372036854775807 := by have := w0.2; omega
  have WR := Lib.hid w0
  have ba := wf_bounds_u8 wa0
  clear w0 wa0
  obtain ⟨m6, hm6⟩ : ∃ m : Nat, a0.tmod 6 = (m : Int) := Int.eq_ofNat_of_zero_le (Int.tmod_nonneg _ ba.1)
  have hm6b : m6 < 6 := by have := Int.tmod_lt_of_pos a0 (show (0 : Int) < 6 by omega); omega
  obtain ⟨q, hq⟩ : ∃ q : Nat, q = 2 + m6 := ⟨_, rfl⟩
  have hq1 : 2 ≤ q := by omega
  have hq2 : q ≤ 7 := by omega
  have wa' : IntKind.i64.wrap a0 = a0 := IntWalk.i64_in _ (by omega)
  have wm : IntKind.i64.wrap (m6 : Int) = (m6 : Int) := IntWalk.i64_in _ (by omega)
  have wq1 : wrap64 (2 + (m6 : Int)) = (q : Int) := by rw [wrap64_fit (by omega) (by omega)]; omega
  have wq2 : IntKind.i64.wrap (2 + (m6 : Int)) = (q : Int) := by rw [IntWalk.i64_in _ (by omega)]; omega
  clear hq
  have E1 := Lib.hid (J.new_blank (m := (q : Int)) (n := q) rfl (by omega) (by omega))
  have FB := J.format_blank (n := q) (note := []) hq1 (by omega) (by decide)
  have E2 : Hid (J.format (J.blank q) [] = (_, (⟨1, 1, []⟩ : Rc), 0)) := Lib.hid FB.1
  have IL := Lib.hid FB.2
  have IH := Lib.hid (J.held_first (n := q) (note := []) hq1 (by decide))
  clear FB
  obtain ⟨l0, hl0⟩ : ∃ l, (List.replicate q K.zero).set 1 (J.sec ⟨1, 1, []⟩) = l := ⟨_, rfl⟩
  rw [hl0] at E2 IL IH
  have hl3 : Hid (l0.length = q) := Lib.hid (by rw [← hl0, List.length_set, List.length_replicate])
  clear hl0
  go_enter Try.func6, Try.ntmps6
  go_wp2_with fail
  refine (jalive_any _).mono ?_
  rintro e v1 ⟨rfl, b⟩
  by_cases hn : 100 < n
  · go_wp2
    go_ret
    exact ⟨rfl, b⟩
  go_wp2_with fail
  clear hm6 wa' wm wq1 wq2
  refine (rknew_at' E1.out _).mono ?_
  rintro e v2 ⟨⟨A1, k1, c1, rfl, R, fr⟩, hb⟩
  clear fr
  replace b := b.trans (hb.mono b.size)
  clear hb
  have HV : Hid (W.heap.size ≤ v2.heap.size) := Lib.hid b.size
  have X := Box.new v2 #[.slice A1 k1 c1, .int .i64 (J.blank q).fuse, .bool (J.blank q).down] 34
  replace R := R.alloc (.cells #[.slice A1 k1 c1, .int .i64 (J.blank q).fuse, .bool (J.blank q).down] 34)
  have hk1 : k1 ≤ 7 := by have h1 := R.len; have h2 : (J.blank q).secs.length = q := by simp [J.blank]
                          simp only at h1; omega
  replace b := b.alloc b.size (.cells #[.slice A1 k1 c1, .int .i64 (J.blank q).fuse, .bool (J.blank q).down] 34)
  have x0 := X.at 0 rfl
  have x1 := X.at 1 rfl
  have x2 := X.at 2 rfl
  (try dsimp only)
  (try dsimp only at R)
  go_wp2_with fail
  generalize v2.alloc (.cells #[.slice A1 k1 c1, .int .i64 (J.blank q).fuse, .bool (J.blank q).down] 34) = s1 at *
  refine (jformat_at A1 k1 c1 [] E2.out _ R (by omega) (by show (-1 : Int) ≤ _; omega) (by decide)).mono ?_
  rintro e v3 ⟨⟨A2, n2, c2, rfl, R'⟩, hb⟩
  replace X := X.belowH hb
  replace b := b.trans (hb.mono b.size)
  clear hb x0 x1 x2 R
  have x0 := X.at 0 rfl
  have x1 := X.at 1 rfl
  have x2 := X.at 2 rfl
  have xc := X.cold
  have hxv := X.lt
  simp only [rv]
  (try dsimp only)
  (try dsimp only at R')
  have R2 := (R'.box3 X (.slice A2 n2 c2) (.int .i64 (-1)) (.bool false)).alloc (.cells #[.int .i64 1, .int .i64 1, .string (strB [])] 23)
  have X2 := (X.three (.slice A2 n2 c2) (.int .i64 (-1)) (.bool false)).alloc (.cells #[.int .i64 1, .int .i64 1, .string (strB [])] 23)
  have L2 := Box.new (((v3.setCell ⟨v2.heap.size, 0, none⟩ (.slice A2 n2 c2)).setCell ⟨v2.heap.size, 1, none⟩ (.int .i64 (-1))).setCell ⟨v2.heap.size, 2, none⟩ (.bool false)) #[.int .i64 1, .int .i64 1, .string (strB [])] 23
  rw [show (((v3.setCell ⟨v2.heap.size, 0, none⟩ (.slice A2 n2 c2)).setCell ⟨v2.heap.size, 1, none⟩ (.int .i64 (-1))).setCell ⟨v2.heap.size, 2, none⟩ (.bool false)).heap.size = v3.heap.size by simp] at L2
  have b2 := (below_three b (show W.heap.size ≤ v2.heap.size from HV.out) (.slice A2 n2 c2) (.int .i64 (-1)) (.bool false)).alloc (by have := b.size; simp; omega) (.cells #[.int .i64 1, .int .i64 1, .string (strB [])] 23)
  have hwl : W.heap.size ≤ v3.heap.size := b.size
  clear R' X b
  go_wp2_with fail
  clear x0 x1 x2 xc
  generalize (((v3.setCell ⟨v2.heap.size, 0, none⟩ (.slice A2 n2 c2)).setCell ⟨v2.heap.size, 1, none⟩ (.int .i64 (-1))).setCell ⟨v2.heap.size, 2, none⟩ (.bool false)).alloc (.cells #[.int .i64 1, .int .i64 1, .string (strB [])] 23) = s3 at *
  have hwx := HV.out
  generalize v3.heap.size = lb at *
  generalize v2.heap.size = xb at *
  go_loopw [10] (AheadR W xb lb n q) (fun v _ => n - (intOf v).toNat)
  case atStart => exact ⟨0, l0, ⟨1, 1, []⟩, A2, n2, c2, by omega, rfl, hl3.out, IL.out, IH.out, ⟨rfl, by show (1 : Int) ≤ _; omega⟩, X2, R2, L2, b2⟩
  case round =>
    clear X2 R2 L2 b2 HV
    obtain ⟨k, l, x, A2', n2', c2', hk, rfl, hl, hil, hih, ⟨hxs, hxg⟩, X, R, L, b⟩ := hrel
    have HL3 := Lib.hid hl
    have HIL := Lib.hid hil
    have HIH := Lib.hid hih
    have HXS := Lib.hid hxs
    clear hl hil hih hxs
    have hkn : n2' = q := by have h1 := R.len; have h2 := HL3.out; simp only at h1; omega
    subst hkn
    have hgd := guard_rc
    by_cases hlt : k < n
    · skip
      obtain ⟨bw, ow, note, rfl, hbw, c2', hnote⟩ := WR.out.at hlt
      have hst : (strB note).size ≤ 9223372036854775807 := by rw [J.strB_size]; exact hnote
      have HSZ : Hid ((strB note).size = note.length) := Lib.hid (J.strB_size note)
      have hk0 : (0 : Int) ≤ (k : Int) := by omega
      have C2 := Lib.hid c2'
      clear c2'
      have e2 := cell_below2 C2.out b hbw
      by_cases h30 : 30 < (strB note).size
      · go_wp2
        go_ret
        exact ⟨rfl, b⟩
      have h30' : note.length ≤ 30 := by have := HSZ.out; omega
      obtain ⟨m2, hm2⟩ : ∃ m : Nat, (k : Int).tmod 2 = (m : Int) := Int.eq_ofNat_of_zero_le (Int.tmod_nonneg _ hk0)
      have hm2b : m2 < 2 := by have := Int.tmod_lt_of_pos (k : Int) (show (0 : Int) < 2 by omega); omega
      have HM2 := Lib.hid hm2
      clear hm2
      have hxm : 1 ≤ x.gen := by obtain ⟨⟨i, hv⟩, _⟩ := HIL.out; exact hv.1.2.2.1
      obtain ⟨g, hg⟩ : ∃ g : Int, x.gen + m2 = g := ⟨_, rfl⟩
      have hgb : g ≤ (k : Int) + 2 := by omega
      have p1 : 2 ≤ l.length := by rw [HL3.out]; exact hq1
      have p2 : l.length ≤ 64 := by rw [HL3.out]; omega
      have p3 : k ≤ 100 := by omega
      have p4 : x.gen ≤ g := by omega
      have p5 : g ≤ 1099511627776 := by omega
      have pr := J.ring_step (l := l) (k := k) (x := x) (g := g) (note := note) HIL.out HIH.out p1 p2 HXS.out p3 p4 p5 h30'
      obtain ⟨lq, hw1, hw2, hw3, hw4⟩ := pr
      clear p1 p2 p3 p4 p5
      have HWR := Lib.hid hw1
      have HLQ : Hid (lq.length = n2') := Lib.hid (by rw [hw2]; exact HL3.out)
      have HIQ := Lib.hid hw3
      have HHQ := Lib.hid hw4
      have HBD : Hid (g ≤ ((k + 1 : Nat) : Int) + 1) := Lib.hid (by push_cast; omega)
      have hglo : 1 ≤ g := by omega
      have wm2 : IntKind.i64.wrap (m2 : Int) = (m2 : Int) := IntWalk.i64_in _ (by omega)
      have wg : IntKind.i64.wrap (x.gen + (m2 : Int)) = g := by rw [IntWalk.i64_in _ (by omega)]; exact hg
      have wg2 : wrap64 (x.gen + (m2 : Int)) = g := by rw [wrap64_fit (by omega) (by omega)]; exact hg
      have wk2 : IntKind.i64.wrap ((k : Int) + 2) = (k : Int) + 2 := IntWalk.i64_in _ (by omega)
      have wk3 : wrap64 ((k : Int) + 2) = (k : Int) + 2 := wrap64_fit (by omega) (by omega)
      have qx : ∀ w, (Op.equalIn 10000 23 (.agg #[.int .i64 ((k : Int) + 2), .int .i64 g, .string (strB note)]) (.agg #[.int .i64 ((k : Int) + 2), .int .i64 g, .string (strB note)])).run Try.prog w = .ok true w := fun w => (eq_rc ⟨(k : Int) + 2, g, note⟩ ⟨(k : Int) + 2, g, note⟩ w).trans (by rw [rcB_self])
      clear hg hw1 hw2 hw3 hw4
      have hm2 := HM2.out
      go_upto_region 13 with fail
      clear e2
      go_cut [11, 12, 13] (WroteR W xb lb l x lq k g note A2' n2' c2')
      case first =>
        replace X := X.drew
        replace L := L.drew
        replace R := R.drew
        replace b := b.drew
        refine wp_region_held_drew (S := (fun w' => w'.cell? ⟨xb, 0, none⟩ = some (.slice A2' n2' c2') ∧ w'.cell? ⟨xb, 1, none⟩ = some (.int .i64 (-1)) ∧ w'.cell? ⟨xb, 2, none⟩ = some (.bool false) ∧ w'.cell? ⟨lb, 1, none⟩ = some (.int .i64 x.gen) ∧ w'.cell? ⟨bw, ow + k, none⟩ = some (.string (strB note)))) (by kernel_rfl) (by exact ⟨X.at 0 rfl, X.at 1 rfl, X.at 2 rfl, L.at 1 rfl, cell_below2 C2.out b hbw⟩) (fun hHeld0 => ?_)
        generalize wr.drew = we at *
        have hXlt := X.lt
        have hLlt := L.lt
        refine tk 0 53 rfl hHeld0 ?_
        refine tk 1 54 rfl hHeld0 ?_
        refine tk 2 55 rfl hHeld0 ?_
        refine tk 3 56 rfl hHeld0 ?_
        refine tk 4 57 rfl hHeld0 ?_
        refine tk 5 58 rfl hHeld0 ?_
        refine tk 6 59 rfl hHeld0 ?_
        refine tk 7 60 rfl hHeld0 ?_
        refine tk 8 61 rfl hHeld0 ?_
        refine tk 9 62 rfl hHeld0 ?_
        clear wm2 wg wg2 wk2 wk3 hm2
        refine wpAnyH_ready (rs := [10, 15, 16]) (by kernel_rfl) (by simp) (AllReadyH.cons (o := ⟨some 63, _, _, _, _, _⟩) rfl (fun K hK => ?_) (AllReadyH.cons (o := ⟨some 11, _, _, _, _, _⟩) rfl (fun K hK => ?_) (AllReadyH.cons (o := ⟨some 12, _, _, _, _, _⟩) rfl (fun K hK => ?_) AllReadyH.nil)))
        · skip
          go_simp
          refine (jwrite_at (d := ⟨l, -1, false⟩) A2' n2' c2' g note HWR.out _ R (by omega) (by show (-1 : Int) ≤ _; omega) (by omega) hnote).mono ?_
          rintro e wf0 ⟨⟨A3, n3, c3, rfl, R3⟩, hb⟩
          (try dsimp only at R3)
          simp only [rv]
          (try dsimp only)
          replace X := X.belowH hb
          replace L := L.belowH hb
          replace R := R.belowH hb
          have hsz0 := hb.size
          replace b := b.trans (hb.mono b.size)
          clear hb
          go_simp
          refine hK.out _ _ (by exact ⟨X.at 0 rfl, X.at 1 rfl, X.at 2 rfl, L.at 1 rfl, cell_below2 C2.out b hbw⟩) (fun hHeld1 => ?_)
          clear hK hHeld0 K
          try simp only [Act.put, sA, sB, sC]
          refine tk 11 52 rfl hHeld1 ?_
          refine tk 12 64 rfl hHeld1 ?_
          refine tk 13 65 rfl hHeld1 ?_
          refine tk 14 66 rfl hHeld1 ?_
          refine wpAnyH_ready (rs := [15, 16]) (by kernel_rfl) (by simp) (AllReadyH.cons (o := ⟨some 11, _, _, _, _, _⟩) rfl (fun K hK => ?_) (AllReadyH.cons (o := ⟨some 12, _, _, _, _, _⟩) rfl (fun K hK => ?_) AllReadyH.nil))
          · skip
            go_simp
            have hxYD : xb < wf0.heap.size := X.lt
            have hlYD : lb < wf0.heap.size := L.lt
            have YD := Box.new wf0 #[.slice none 0 0, .int .i64 0, .bool false] 34
            replace X := X.alloc (.cells #[.slice none 0 0, .int .i64 0, .bool false] 34)
            replace L := L.alloc (.cells #[.slice none 0 0, .int .i64 0, .bool false] 34)
            replace R := R.alloc (.cells #[.slice none 0 0, .int .i64 0, .bool false] 34)
            replace R3 := R3.alloc (.cells #[.slice none 0 0, .int .i64 0, .bool false] 34)
            replace b := b.alloc b.size (.cells #[.slice none 0 0, .int .i64 0, .bool false] 34)
            refine hK.out _ _ (by exact ⟨X.at 0 rfl, X.at 1 rfl, X.at 2 rfl, L.at 1 rfl, cell_below2 C2.out b hbw⟩) (fun hHeld2 => ?_)
            clear hK hHeld1 K
            try simp only [Act.put, sA, sB, sC]
            generalize wf0.alloc (.cells #[.slice none 0 0, .int .i64 0, .bool false] 34) = wg1 at *
            generalize wf0.heap.size = ydb1 at *
            refine wpAnyH_ready (rs := [16]) (by kernel_rfl) (by simp) (AllReadyH.cons (o := ⟨some 12, _, _, _, _, _⟩) rfl (fun K hK => ?_) AllReadyH.nil)
            go_simp
            have hxYR : xb < wg1.heap.size := X.lt
            have hlYR : lb < wg1.heap.size := L.lt
            have hoo : ydb1 < wg1.heap.size := YD.lt
            have YR := Box.new wg1 #[.int .i64 0, .int .i64 0, .string ⟨#[]⟩] 23
            replace X := X.alloc (.cells #[.int .i64 0, .int .i64 0, .string ⟨#[]⟩] 23)
            replace L := L.alloc (.cells #[.int .i64 0, .int .i64 0, .string ⟨#[]⟩] 23)
            replace YD := YD.alloc (.cells #[.int .i64 0, .int .i64 0, .string ⟨#[]⟩] 23)
            replace R := R.alloc (.cells #[.int .i64 0, .int .i64 0, .string ⟨#[]⟩] 23)
            replace R3 := R3.alloc (.cells #[.int .i64 0, .int .i64 0, .string ⟨#[]⟩] 23)
            replace b := b.alloc b.size (.cells #[.int .i64 0, .int .i64 0, .string ⟨#[]⟩] 23)
            refine hK.out _ _ (by exact ⟨X.at 0 rfl, X.at 1 rfl, X.at 2 rfl, L.at 1 rfl, cell_below2 C2.out b hbw⟩) (fun hHeld3 => ?_)
            clear hK hHeld2 K
            try simp only [Act.put, sA, sB, sC]
            generalize wg1.alloc (.cells #[.int .i64 0, .int .i64 0, .string ⟨#[]⟩] 23) = wg2 at *
            generalize wg1.heap.size = yrb2 at *
            refine wpAnyH_ready (rs := [17]) (by kernel_rfl) (by simp) (AllReadyH.cons (o := ⟨none, _, _, _, _, _⟩) rfl (fun K hK => ?_) AllReadyH.nil)
            have a0 := YD.at 0 rfl
            have a1 := YD.at 1 rfl
            have a2 := YD.at 2 rfl
            have ac := YD.cold
            go_simp
            replace R3 := R3.box3 YD (.slice A3 n3 c3) (.int .i64 (-1)) (.bool false)
            replace YR := YR.other3' (show yrb2 ≠ ydb1 by omega) (.slice A3 n3 c3) (.int .i64 (-1)) (.bool false)
            replace X := X.other3' (show xb ≠ ydb1 by omega) (.slice A3 n3 c3) (.int .i64 (-1)) (.bool false)
            replace L := L.other3' (show lb ≠ ydb1 by omega) (.slice A3 n3 c3) (.int .i64 (-1)) (.bool false)
            replace YD := YD.three (.slice A3 n3 c3) (.int .i64 (-1)) (.bool false)
            replace b := below_three b (show W.heap.size ≤ ydb1 by omega) (.slice A3 n3 c3) (.int .i64 (-1)) (.bool false)
            clear a0 a1 a2 ac
            refine hK.out _ _ (by exact ⟨X.at 0 rfl, X.at 1 rfl, X.at 2 rfl, L.at 1 rfl, cell_below2 C2.out b hbw⟩) (fun hHeld4 => ?_)
            clear hK hHeld3 K
            try simp only [Act.put, sA, sB, sC]
            generalize ((wg2.setCell ⟨ydb1, 0, none⟩ (.slice A3 n3 c3)).setCell ⟨ydb1, 1, none⟩ (.int .i64 (-1))).setCell ⟨ydb1, 2, none⟩ (.bool false) = wh at *
            refine wpAnyH_ready (rs := [18]) (by kernel_rfl) (by simp) (AllReadyH.cons (o := ⟨none, _, _, _, _, _⟩) rfl (fun K hK => ?_) AllReadyH.nil)
            have a0 := YR.at 0 rfl
            have a1 := YR.at 1 rfl
            have a2 := YR.at 2 rfl
            have ac := YR.cold
            go_simp
            replace R3 := R3.box3 YR (.int .i64 ((k : Int) + 2)) (.int .i64 g) (.string (strB note))
            replace YD := YD.other3' (show ydb1 ≠ yrb2 by omega) (.int .i64 ((k : Int) + 2)) (.int .i64 g) (.string (strB note))
            replace X := X.other3' (show xb ≠ yrb2 by omega) (.int .i64 ((k : Int) + 2)) (.int .i64 g) (.string (strB note))
            replace L := L.other3' (show lb ≠ yrb2 by omega) (.int .i64 ((k : Int) + 2)) (.int .i64 g) (.string (strB note))
            replace YR := YR.three (.int .i64 ((k : Int) + 2)) (.int .i64 g) (.string (strB note))
            replace b := below_three b (show W.heap.size ≤ yrb2 by omega) (.int .i64 ((k : Int) + 2)) (.int .i64 g) (.string (strB note))
            clear a0 a1 a2 ac
            refine hK.out _ _ (by exact ⟨X.at 0 rfl, X.at 1 rfl, X.at 2 rfl, L.at 1 rfl, cell_below2 C2.out b hbw⟩) (fun hHeld5 => ?_)
            clear hK hHeld4 K
            try simp only [Act.put, sA, sB, sC]
            refine tk 19 13 rfl hHeld5 ?_
            refine wpAnyH_done (by kernel_rfl) ?_ _
            clear hHeld5
            go_wp2_with fail
            go_meet
            exact ⟨ydb1, yrb2, A3, n3, c3, rfl, rfl, rfl, by omega, by omega, YD, YR, R3, X, L, b⟩
          · skip
            go_simp
            have hxYR : xb < wf0.heap.size := X.lt
            have hlYR : lb < wf0.heap.size := L.lt
            have YR := Box.new wf0 #[.int .i64 0, .int .i64 0, .string ⟨#[]⟩] 23
            replace X := X.alloc (.cells #[.int .i64 0, .int .i64 0, .string ⟨#[]⟩] 23)
            replace L := L.alloc (.cells #[.int .i64 0, .int .i64 0, .string ⟨#[]⟩] 23)
            replace R := R.alloc (.cells #[.int .i64 0, .int .i64 0, .string ⟨#[]⟩] 23)
            replace R3 := R3.alloc (.cells #[.int .i64 0, .int .i64 0, .string ⟨#[]⟩] 23)
            replace b := b.alloc b.size (.cells #[.int .i64 0, .int .i64 0, .string ⟨#[]⟩] 23)
            refine hK.out _ _ (by exact ⟨X.at 0 rfl, X.at 1 rfl, X.at 2 rfl, L.at 1 rfl, cell_below2 C2.out b hbw⟩) (fun hHeld2 => ?_)
            clear hK hHeld1 K
            try simp only [Act.put, sA, sB, sC]
            generalize wf0.alloc (.cells #[.int .i64 0, .int .i64 0, .string ⟨#[]⟩] 23) = wg1 at *
            generalize wf0.heap.size = yrb1 at *
            refine wpAnyH_ready (rs := [15]) (by kernel_rfl) (by simp) (AllReadyH.cons (o := ⟨some 11, _, _, _, _, _⟩) rfl (fun K hK => ?_) AllReadyH.nil)
            go_simp
            have hxYD : xb < wg1.heap.size := X.lt
            have hlYD : lb < wg1.heap.size := L.lt
            have hoo : yrb1 < wg1.heap.size := YR.lt
            have YD := Box.new wg1 #[.slice none 0 0, .int .i64 0, .bool false] 34
            replace X := X.alloc (.cells #[.slice none 0 0, .int .i64 0, .bool false] 34)
            replace L := L.alloc (.cells #[.slice none 0 0, .int .i64 0, .bool false] 34)
            replace YR := YR.alloc (.cells #[.slice none 0 0, .int .i64 0, .bool false] 34)
            replace R := R.alloc (.cells #[.slice none 0 0, .int .i64 0, .bool false] 34)
            replace R3 := R3.alloc (.cells #[.slice none 0 0, .int .i64 0, .bool false] 34)
            replace b := b.alloc b.size (.cells #[.slice none 0 0, .int .i64 0, .bool false] 34)
            refine hK.out _ _ (by exact ⟨X.at 0 rfl, X.at 1 rfl, X.at 2 rfl, L.at 1 rfl, cell_below2 C2.out b hbw⟩) (fun hHeld3 => ?_)
            clear hK hHeld2 K
            try simp only [Act.put, sA, sB, sC]
            generalize wg1.alloc (.cells #[.slice none 0 0, .int .i64 0, .bool false] 34) = wg2 at *
            generalize wg1.heap.size = ydb2 at *
            refine wpAnyH_ready (rs := [17]) (by kernel_rfl) (by simp) (AllReadyH.cons (o := ⟨none, _, _, _, _, _⟩) rfl (fun K hK => ?_) AllReadyH.nil)
            have a0 := YD.at 0 rfl
            have a1 := YD.at 1 rfl
            have a2 := YD.at 2 rfl
            have ac := YD.cold
            go_simp
            replace R3 := R3.box3 YD (.slice A3 n3 c3) (.int .i64 (-1)) (.bool false)
            replace YR := YR.other3' (show yrb1 ≠ ydb2 by omega) (.slice A3 n3 c3) (.int .i64 (-1)) (.bool false)
            replace X := X.other3' (show xb ≠ ydb2 by omega) (.slice A3 n3 c3) (.int .i64 (-1)) (.bool false)
            replace L := L.other3' (show lb ≠ ydb2 by omega) (.slice A3 n3 c3) (.int .i64 (-1)) (.bool false)
            replace YD := YD.three (.slice A3 n3 c3) (.int .i64 (-1)) (.bool false)
            replace b := below_three b (show W.heap.size ≤ ydb2 by omega) (.slice A3 n3 c3) (.int .i64 (-1)) (.bool false)
            clear a0 a1 a2 ac
            refine hK.out _ _ (by exact ⟨X.at 0 rfl, X.at 1 rfl, X.at 2 rfl, L.at 1 rfl, cell_below2 C2.out b hbw⟩) (fun hHeld4 => ?_)
            clear hK hHeld3 K
            try simp only [Act.put, sA, sB, sC]
            generalize ((wg2.setCell ⟨ydb2, 0, none⟩ (.slice A3 n3 c3)).setCell ⟨ydb2, 1, none⟩ (.int .i64 (-1))).setCell ⟨ydb2, 2, none⟩ (.bool false) = wh at *
            refine wpAnyH_ready (rs := [18]) (by kernel_rfl) (by simp) (AllReadyH.cons (o := ⟨none, _, _, _, _, _⟩) rfl (fun K hK => ?_) AllReadyH.nil)
            have a0 := YR.at 0 rfl
            have a1 := YR.at 1 rfl
            have a2 := YR.at 2 rfl
            have ac := YR.cold
            go_simp
            replace R3 := R3.box3 YR (.int .i64 ((k : Int) + 2)) (.int .i64 g) (.string (strB note))
            replace YD := YD.other3' (show ydb2 ≠ yrb1 by omega) (.int .i64 ((k : Int) + 2)) (.int .i64 g) (.string (strB note))
            replace X := X.other3' (show xb ≠ yrb1 by omega) (.int .i64 ((k : Int) + 2)) (.int .i64 g) (.string (strB note))
            replace L := L.other3' (show lb ≠ yrb1 by omega) (.int .i64 ((k : Int) + 2)) (.int .i64 g) (.string (strB note))
            replace YR := YR.three (.int .i64 ((k : Int) + 2)) (.int .i64 g) (.string (strB note))
            replace b := below_three b (show W.heap.size ≤ yrb1 by omega) (.int .i64 ((k : Int) + 2)) (.int .i64 g) (.string (strB note))
            clear a0 a1 a2 ac
            refine hK.out _ _ (by exact ⟨X.at 0 rfl, X.at 1 rfl, X.at 2 rfl, L.at 1 rfl, cell_below2 C2.out b hbw⟩) (fun hHeld5 => ?_)
            clear hK hHeld4 K
            try simp only [Act.put, sA, sB, sC]
            refine tk 19 13 rfl hHeld5 ?_
            refine wpAnyH_done (by kernel_rfl) ?_ _
            clear hHeld5
            go_wp2_with fail
            go_meet
            exact ⟨ydb2, yrb1, A3, n3, c3, rfl, rfl, rfl, by omega, by omega, YD, YR, R3, X, L, b⟩
        · skip
          go_simp
          have hxYD : xb < we.heap.size := X.lt
          have hlYD : lb < we.heap.size := L.lt
          have YD := Box.new we #[.slice none 0 0, .int .i64 0, .bool false] 34
          replace X := X.alloc (.cells #[.slice none 0 0, .int .i64 0, .bool false] 34)
          replace L := L.alloc (.cells #[.slice none 0 0, .int .i64 0, .bool false] 34)
          replace R := R.alloc (.cells #[.slice none 0 0, .int .i64 0, .bool false] 34)
          replace b := b.alloc b.size (.cells #[.slice none 0 0, .int .i64 0, .bool false] 34)
          refine hK.out _ _ (by exact ⟨X.at 0 rfl, X.at 1 rfl, X.at 2 rfl, L.at 1 rfl, cell_below2 C2.out b hbw⟩) (fun hHeld1 => ?_)
          clear hK hHeld0 K
          try simp only [Act.put, sA, sB, sC]
          generalize we.alloc (.cells #[.slice none 0 0, .int .i64 0, .bool false] 34) = wg0 at *
          generalize we.heap.size = ydb0 at *
          refine wpAnyH_ready (rs := [10, 16]) (by kernel_rfl) (by simp) (AllReadyH.cons (o := ⟨some 63, _, _, _, _, _⟩) rfl (fun K hK => ?_) (AllReadyH.cons (o := ⟨some 12, _, _, _, _, _⟩) rfl (fun K hK => ?_) AllReadyH.nil))
          · skip
            go_simp
            refine (jwrite_at (d := ⟨l, -1, false⟩) A2' n2' c2' g note HWR.out _ R (by omega) (by show (-1 : Int) ≤ _; omega) (by omega) hnote).mono ?_
            rintro e wf1 ⟨⟨A3, n3, c3, rfl, R3⟩, hb⟩
            (try dsimp only at R3)
            simp only [rv]
            (try dsimp only)
            replace X := X.belowH hb
            replace L := L.belowH hb
            replace YD := YD.belowH hb
            replace R := R.belowH hb
            have hsz1 := hb.size
            replace b := b.trans (hb.mono b.size)
            clear hb
            go_simp
            refine hK.out _ _ (by exact ⟨X.at 0 rfl, X.at 1 rfl, X.at 2 rfl, L.at 1 rfl, cell_below2 C2.out b hbw⟩) (fun hHeld2 => ?_)
            clear hK hHeld1 K
            try simp only [Act.put, sA, sB, sC]
            refine tk 11 52 rfl hHeld2 ?_
            refine tk 12 64 rfl hHeld2 ?_
            refine tk 13 65 rfl hHeld2 ?_
            refine tk 14 66 rfl hHeld2 ?_
            refine wpAnyH_ready (rs := [16]) (by kernel_rfl) (by simp) (AllReadyH.cons (o := ⟨some 12, _, _, _, _, _⟩) rfl (fun K hK => ?_) AllReadyH.nil)
            go_simp
            have hxYR : xb < wf1.heap.size := X.lt
            have hlYR : lb < wf1.heap.size := L.lt
            have hoo : ydb0 < wf1.heap.size := YD.lt
            have YR := Box.new wf1 #[.int .i64 0, .int .i64 0, .string ⟨#[]⟩] 23
            replace X := X.alloc (.cells #[.int .i64 0, .int .i64 0, .string ⟨#[]⟩] 23)
            replace L := L.alloc (.cells #[.int .i64 0, .int .i64 0, .string ⟨#[]⟩] 23)
            replace YD := YD.alloc (.cells #[.int .i64 0, .int .i64 0, .string ⟨#[]⟩] 23)
            replace R := R.alloc (.cells #[.int .i64 0, .int .i64 0, .string ⟨#[]⟩] 23)
            replace R3 := R3.alloc (.cells #[.int .i64 0, .int .i64 0, .string ⟨#[]⟩] 23)
            replace b := b.alloc b.size (.cells #[.int .i64 0, .int .i64 0, .string ⟨#[]⟩] 23)
            refine hK.out _ _ (by exact ⟨X.at 0 rfl, X.at 1 rfl, X.at 2 rfl, L.at 1 rfl, cell_below2 C2.out b hbw⟩) (fun hHeld3 => ?_)
            clear hK hHeld2 K
            try simp only [Act.put, sA, sB, sC]
            generalize wf1.alloc (.cells #[.int .i64 0, .int .i64 0, .string ⟨#[]⟩] 23) = wg2 at *
            generalize wf1.heap.size = yrb2 at *
            refine wpAnyH_ready (rs := [17]) (by kernel_rfl) (by simp) (AllReadyH.cons (o := ⟨none, _, _, _, _, _⟩) rfl (fun K hK => ?_) AllReadyH.nil)
            have a0 := YD.at 0 rfl
            have a1 := YD.at 1 rfl
            have a2 := YD.at 2 rfl
            have ac := YD.cold
            go_simp
            replace R3 := R3.box3 YD (.slice A3 n3 c3) (.int .i64 (-1)) (.bool false)
            replace YR := YR.other3' (show yrb2 ≠ ydb0 by omega) (.slice A3 n3 c3) (.int .i64 (-1)) (.bool false)
            replace X := X.other3' (show xb ≠ ydb0 by omega) (.slice A3 n3 c3) (.int .i64 (-1)) (.bool false)
            replace L := L.other3' (show lb ≠ ydb0 by omega) (.slice A3 n3 c3) (.int .i64 (-1)) (.bool false)
            replace YD := YD.three (.slice A3 n3 c3) (.int .i64 (-1)) (.bool false)
            replace b := below_three b (show W.heap.size ≤ ydb0 by omega) (.slice A3 n3 c3) (.int .i64 (-1)) (.bool false)
            clear a0 a1 a2 ac
            refine hK.out _ _ (by exact ⟨X.at 0 rfl, X.at 1 rfl, X.at 2 rfl, L.at 1 rfl, cell_below2 C2.out b hbw⟩) (fun hHeld4 => ?_)
            clear hK hHeld3 K
            try simp only [Act.put, sA, sB, sC]
            generalize ((wg2.setCell ⟨ydb0, 0, none⟩ (.slice A3 n3 c3)).setCell ⟨ydb0, 1, none⟩ (.int .i64 (-1))).setCell ⟨ydb0, 2, none⟩ (.bool false) = wh at *
            refine wpAnyH_ready (rs := [18]) (by kernel_rfl) (by simp) (AllReadyH.cons (o := ⟨none, _, _, _, _, _⟩) rfl (fun K hK => ?_) AllReadyH.nil)
            have a0 := YR.at 0 rfl
            have a1 := YR.at 1 rfl
            have a2 := YR.at 2 rfl
            have ac := YR.cold
            go_simp
            replace R3 := R3.box3 YR (.int .i64 ((k : Int) + 2)) (.int .i64 g) (.string (strB note))
            replace YD := YD.other3' (show ydb0 ≠ yrb2 by omega) (.int .i64 ((k : Int) + 2)) (.int .i64 g) (.string (strB note))
            replace X := X.other3' (show xb ≠ yrb2 by omega) (.int .i64 ((k : Int) + 2)) (.int .i64 g) (.string (strB note))
            replace L := L.other3' (show lb ≠ yrb2 by omega) (.int .i64 ((k : Int) + 2)) (.int .i64 g) (.string (strB note))
            replace YR := YR.three (.int .i64 ((k : Int) + 2)) (.int .i64 g) (.string (strB note))
            replace b := below_three b (show W.heap.size ≤ yrb2 by omega) (.int .i64 ((k : Int) + 2)) (.int .i64 g) (.string (strB note))
            clear a0 a1 a2 ac
            refine hK.out _ _ (by exact ⟨X.at 0 rfl, X.at 1 rfl, X.at 2 rfl, L.at 1 rfl, cell_below2 C2.out b hbw⟩) (fun hHeld5 => ?_)
            clear hK hHeld4 K
            try simp only [Act.put, sA, sB, sC]
            refine tk 19 13 rfl hHeld5 ?_
            refine wpAnyH_done (by kernel_rfl) ?_ _
            clear hHeld5
            go_wp2_with fail
            go_meet
            exact ⟨ydb0, yrb2, A3, n3, c3, rfl, rfl, rfl, by omega, by omega, YD, YR, R3, X, L, b⟩
          · skip
            go_simp
            have hxYR : xb < wg0.heap.size := X.lt
            have hlYR : lb < wg0.heap.size := L.lt
            have hoo : ydb0 < wg0.heap.size := YD.lt
            have YR := Box.new wg0 #[.int .i64 0, .int .i64 0, .string ⟨#[]⟩] 23
            replace X := X.alloc (.cells #[.int .i64 0, .int .i64 0, .string ⟨#[]⟩] 23)
            replace L := L.alloc (.cells #[.int .i64 0, .int .i64 0, .string ⟨#[]⟩] 23)
            replace YD := YD.alloc (.cells #[.int .i64 0, .int .i64 0, .string ⟨#[]⟩] 23)
            replace R := R.alloc (.cells #[.int .i64 0, .int .i64 0, .string ⟨#[]⟩] 23)
            replace b := b.alloc b.size (.cells #[.int .i64 0, .int .i64 0, .string ⟨#[]⟩] 23)
            refine hK.out _ _ (by exact ⟨X.at 0 rfl, X.at 1 rfl, X.at 2 rfl, L.at 1 rfl, cell_below2 C2.out b hbw⟩) (fun hHeld2 => ?_)
            clear hK hHeld1 K
            try simp only [Act.put, sA, sB, sC]
            generalize wg0.alloc (.cells #[.int .i64 0, .int .i64 0, .string ⟨#[]⟩] 23) = wg1 at *
            generalize wg0.heap.size = yrb1 at *
            refine wpAnyH_ready (rs := [10]) (by kernel_rfl) (by simp) (AllReadyH.cons (o := ⟨some 63, _, _, _, _, _⟩) rfl (fun K hK => ?_) AllReadyH.nil)
            go_simp
            refine (jwrite_at (d := ⟨l, -1, false⟩) A2' n2' c2' g note HWR.out _ R (by omega) (by show (-1 : Int) ≤ _; omega) (by omega) hnote).mono ?_
            rintro e wf2 ⟨⟨A3, n3, c3, rfl, R3⟩, hb⟩
            (try dsimp only at R3)
            simp only [rv]
            (try dsimp only)
            replace X := X.belowH hb
            replace L := L.belowH hb
            replace YD := YD.belowH hb
            replace YR := YR.belowH hb
            replace R := R.belowH hb
            have hsz2 := hb.size
            replace b := b.trans (hb.mono b.size)
            clear hb
            go_simp
            refine hK.out _ _ (by exact ⟨X.at 0 rfl, X.at 1 rfl, X.at 2 rfl, L.at 1 rfl, cell_below2 C2.out b hbw⟩) (fun hHeld3 => ?_)
            clear hK hHeld2 K
            try simp only [Act.put, sA, sB, sC]
            refine tk 11 52 rfl hHeld3 ?_
            refine tk 12 64 rfl hHeld3 ?_
            refine tk 13 65 rfl hHeld3 ?_
            refine tk 14 66 rfl hHeld3 ?_
            refine wpAnyH_ready (rs := [17]) (by kernel_rfl) (by simp) (AllReadyH.cons (o := ⟨none, _, _, _, _, _⟩) rfl (fun K hK => ?_) AllReadyH.nil)
            have a0 := YD.at 0 rfl
            have a1 := YD.at 1 rfl
            have a2 := YD.at 2 rfl
            have ac := YD.cold
            go_simp
            replace R3 := R3.box3 YD (.slice A3 n3 c3) (.int .i64 (-1)) (.bool false)
            replace YR := YR.other3' (show yrb1 ≠ ydb0 by omega) (.slice A3 n3 c3) (.int .i64 (-1)) (.bool false)
            replace X := X.other3' (show xb ≠ ydb0 by omega) (.slice A3 n3 c3) (.int .i64 (-1)) (.bool false)
            replace L := L.other3' (show lb ≠ ydb0 by omega) (.slice A3 n3 c3) (.int .i64 (-1)) (.bool false)
            replace YD := YD.three (.slice A3 n3 c3) (.int .i64 (-1)) (.bool false)
            replace b := below_three b (show W.heap.size ≤ ydb0 by omega) (.slice A3 n3 c3) (.int .i64 (-1)) (.bool false)
            clear a0 a1 a2 ac
            refine hK.out _ _ (by exact ⟨X.at 0 rfl, X.at 1 rfl, X.at 2 rfl, L.at 1 rfl, cell_below2 C2.out b hbw⟩) (fun hHeld4 => ?_)
            clear hK hHeld3 K
            try simp only [Act.put, sA, sB, sC]
            generalize ((wf2.setCell ⟨ydb0, 0, none⟩ (.slice A3 n3 c3)).setCell ⟨ydb0, 1, none⟩ (.int .i64 (-1))).setCell ⟨ydb0, 2, none⟩ (.bool false) = wh at *
            refine wpAnyH_ready (rs := [18]) (by kernel_rfl) (by simp) (AllReadyH.cons (o := ⟨none, _, _, _, _, _⟩) rfl (fun K hK => ?_) AllReadyH.nil)
            have a0 := YR.at 0 rfl
            have a1 := YR.at 1 rfl
            have a2 := YR.at 2 rfl
            have ac := YR.cold
            go_simp
            replace R3 := R3.box3 YR (.int .i64 ((k : Int) + 2)) (.int .i64 g) (.string (strB note))
            replace YD := YD.other3' (show ydb0 ≠ yrb1 by omega) (.int .i64 ((k : Int) + 2)) (.int .i64 g) (.string (strB note))
            replace X := X.other3' (show xb ≠ yrb1 by omega) (.int .i64 ((k : Int) + 2)) (.int .i64 g) (.string (strB note))
            replace L := L.other3' (show lb ≠ yrb1 by omega) (.int .i64 ((k : Int) + 2)) (.int .i64 g) (.string (strB note))
            replace YR := YR.three (.int .i64 ((k : Int) + 2)) (.int .i64 g) (.string (strB note))
            replace b := below_three b (show W.heap.size ≤ yrb1 by omega) (.int .i64 ((k : Int) + 2)) (.int .i64 g) (.string (strB note))
            clear a0 a1 a2 ac
            refine hK.out _ _ (by exact ⟨X.at 0 rfl, X.at 1 rfl, X.at 2 rfl, L.at 1 rfl, cell_below2 C2.out b hbw⟩) (fun hHeld5 => ?_)
            clear hK hHeld4 K
            try simp only [Act.put, sA, sB, sC]
            refine tk 19 13 rfl hHeld5 ?_
            refine wpAnyH_done (by kernel_rfl) ?_ _
            clear hHeld5
            go_wp2_with fail
            go_meet
            exact ⟨ydb0, yrb1, A3, n3, c3, rfl, rfl, rfl, by omega, by omega, YD, YR, R3, X, L, b⟩
        · skip
          go_simp
          have hxYR : xb < we.heap.size := X.lt
          have hlYR : lb < we.heap.size := L.lt
          have YR := Box.new we #[.int .i64 0, .int .i64 0, .string ⟨#[]⟩] 23
          replace X := X.alloc (.cells #[.int .i64 0, .int .i64 0, .string ⟨#[]⟩] 23)
          replace L := L.alloc (.cells #[.int .i64 0, .int .i64 0, .string ⟨#[]⟩] 23)
          replace R := R.alloc (.cells #[.int .i64 0, .int .i64 0, .string ⟨#[]⟩] 23)
          replace b := b.alloc b.size (.cells #[.int .i64 0, .int .i64 0, .string ⟨#[]⟩] 23)
          refine hK.out _ _ (by exact ⟨X.at 0 rfl, X.at 1 rfl, X.at 2 rfl, L.at 1 rfl, cell_below2 C2.out b hbw⟩) (fun hHeld1 => ?_)
          clear hK hHeld0 K
          try simp only [Act.put, sA, sB, sC]
          generalize we.alloc (.cells #[.int .i64 0, .int .i64 0, .string ⟨#[]⟩] 23) = wg0 at *
          generalize we.heap.size = yrb0 at *
          refine wpAnyH_ready (rs := [10, 15]) (by kernel_rfl) (by simp) (AllReadyH.cons (o := ⟨some 63, _, _, _, _, _⟩) rfl (fun K hK => ?_) (AllReadyH.cons (o := ⟨some 11, _, _, _, _, _⟩) rfl (fun K hK => ?_) AllReadyH.nil))
          · skip
            go_simp
            refine (jwrite_at (d := ⟨l, -1, false⟩) A2' n2' c2' g note HWR.out _ R (by omega) (by show (-1 : Int) ≤ _; omega) (by omega) hnote).mono ?_
            rintro e wf1 ⟨⟨A3, n3, c3, rfl, R3⟩, hb⟩
            (try dsimp only at R3)
            simp only [rv]
            (try dsimp only)
            replace X := X.belowH hb
            replace L := L.belowH hb
            replace YR := YR.belowH hb
            replace R := R.belowH hb
            have hsz1 := hb.size
            replace b := b.trans (hb.mono b.size)
            clear hb
            go_simp
            refine hK.out _ _ (by exact ⟨X.at 0 rfl, X.at 1 rfl, X.at 2 rfl, L.at 1 rfl, cell_below2 C2.out b hbw⟩) (fun hHeld2 => ?_)
            clear hK hHeld1 K
            try simp only [Act.put, sA, sB, sC]
            refine tk 11 52 rfl hHeld2 ?_
            refine tk 12 64 rfl hHeld2 ?_
            refine tk 13 65 rfl hHeld2 ?_
            refine tk 14 66 rfl hHeld2 ?_
            refine wpAnyH_ready (rs := [15]) (by kernel_rfl) (by simp) (AllReadyH.cons (o := ⟨some 11, _, _, _, _, _⟩) rfl (fun K hK => ?_) AllReadyH.nil)
            go_simp
            have hxYD : xb < wf1.heap.size := X.lt
            have hlYD : lb < wf1.heap.size := L.lt
            have hoo : yrb0 < wf1.heap.size := YR.lt
            have YD := Box.new wf1 #[.slice none 0 0, .int .i64 0, .bool false] 34
            replace X := X.alloc (.cells #[.slice none 0 0, .int .i64 0, .bool false] 34)
            replace L := L.alloc (.cells #[.slice none 0 0, .int .i64 0, .bool false] 34)
            replace YR := YR.alloc (.cells #[.slice none 0 0, .int .i64 0, .bool false] 34)
            replace R := R.alloc (.cells #[.slice none 0 0, .int .i64 0, .bool false] 34)
            replace R3 := R3.alloc (.cells #[.slice none 0 0, .int .i64 0, .bool false] 34)
            replace b := b.alloc b.size (.cells #[.slice none 0 0, .int .i64 0, .bool false] 34)
            refine hK.out _ _ (by exact ⟨X.at 0 rfl, X.at 1 rfl, X.at 2 rfl, L.at 1 rfl, cell_below2 C2.out b hbw⟩) (fun hHeld3 => ?_)
            clear hK hHeld2 K
            try simp only [Act.put, sA, sB, sC]
            generalize wf1.alloc (.cells #[.slice none 0 0, .int .i64 0, .bool false] 34) = wg2 at *
            generalize wf1.heap.size = ydb2 at *
            refine wpAnyH_ready (rs := [17]) (by kernel_rfl) (by simp) (AllReadyH.cons (o := ⟨none, _, _, _, _, _⟩) rfl (fun K hK => ?_) AllReadyH.nil)
            have a0 := YD.at 0 rfl
            have a1 := YD.at 1 rfl
            have a2 := YD.at 2 rfl
            have ac := YD.cold
            go_simp
            replace R3 := R3.box3 YD (.slice A3 n3 c3) (.int .i64 (-1)) (.bool false)
            replace YR := YR.other3' (show yrb0 ≠ ydb2 by omega) (.slice A3 n3 c3) (.int .i64 (-1)) (.bool false)
            replace X := X.other3' (show xb ≠ ydb2 by omega) (.slice A3 n3 c3) (.int .i64 (-1)) (.bool false)
            replace L := L.other3' (show lb ≠ ydb2 by omega) (.slice A3 n3 c3) (.int .i64 (-1)) (.bool false)
            replace YD := YD.three (.slice A3 n3 c3) (.int .i64 (-1)) (.bool false)
            replace b := below_three b (show W.heap.size ≤ ydb2 by omega) (.slice A3 n3 c3) (.int .i64 (-1)) (.bool false)
            clear a0 a1 a2 ac
            refine hK.out _ _ (by exact ⟨X.at 0 rfl, X.at 1 rfl, X.at 2 rfl, L.at 1 rfl, cell_below2 C2.out b hbw⟩) (fun hHeld4 => ?_)
            clear hK hHeld3 K
            try simp only [Act.put, sA, sB, sC]
            generalize ((wg2.setCell ⟨ydb2, 0, none⟩ (.slice A3 n3 c3)).setCell ⟨ydb2, 1, none⟩ (.int .i64 (-1))).setCell ⟨ydb2, 2, none⟩ (.bool false) = wh at *
            refine wpAnyH_ready (rs := [18]) (by kernel_rfl) (by simp) (AllReadyH.cons (o := ⟨none, _, _, _, _, _⟩) rfl (fun K hK => ?_) AllReadyH.nil)
            have a0 := YR.at 0 rfl
            have a1 := YR.at 1 rfl
            have a2 := YR.at 2 rfl
            have ac := YR.cold
            go_simp
            replace R3 := R3.box3 YR (.int .i64 ((k : Int) + 2)) (.int .i64 g) (.string (strB note))
            replace YD := YD.other3' (show ydb2 ≠ yrb0 by omega) (.int .i64 ((k : Int) + 2)) (.int .i64 g) (.string (strB note))
            replace X := X.other3' (show xb ≠ yrb0 by omega) (.int .i64 ((k : Int) + 2)) (.int .i64 g) (.string (strB note))
            replace L := L.other3' (show lb ≠ yrb0 by omega) (.int .i64 ((k : Int) + 2)) (.int .i64 g) (.string (strB note))
            replace YR := YR.three (.int .i64 ((k : Int) + 2)) (.int .i64 g) (.string (strB note))
            replace b := below_three b (show W.heap.size ≤ yrb0 by omega) (.int .i64 ((k : Int) + 2)) (.int .i64 g) (.string (strB note))
            clear a0 a1 a2 ac
            refine hK.out _ _ (by exact ⟨X.at 0 rfl, X.at 1 rfl, X.at 2 rfl, L.at 1 rfl, cell_below2 C2.out b hbw⟩) (fun hHeld5 => ?_)
            clear hK hHeld4 K
            try simp only [Act.put, sA, sB, sC]
            refine tk 19 13 rfl hHeld5 ?_
            refine wpAnyH_done (by kernel_rfl) ?_ _
            clear hHeld5
            go_wp2_with fail
            go_meet
            exact ⟨ydb2, yrb0, A3, n3, c3, rfl, rfl, rfl, by omega, by omega, YD, YR, R3, X, L, b⟩
          · skip
            go_simp
            have hxYD : xb < wg0.heap.size := X.lt
            have hlYD : lb < wg0.heap.size := L.lt
            have hoo : yrb0 < wg0.heap.size := YR.lt
            have YD := Box.new wg0 #[.slice none 0 0, .int .i64 0, .bool false] 34
            replace X := X.alloc (.cells #[.slice none 0 0, .int .i64 0, .bool false] 34)
            replace L := L.alloc (.cells #[.slice none 0 0, .int .i64 0, .bool false] 34)
            replace YR := YR.alloc (.cells #[.slice none 0 0, .int .i64 0, .bool false] 34)
            replace R := R.alloc (.cells #[.slice none 0 0, .int .i64 0, .bool false] 34)
            replace b := b.alloc b.size (.cells #[.slice none 0 0, .int .i64 0, .bool false] 34)
            refine hK.out _ _ (by exact ⟨X.at 0 rfl, X.at 1 rfl, X.at 2 rfl, L.at 1 rfl, cell_below2 C2.out b hbw⟩) (fun hHeld2 => ?_)
            clear hK hHeld1 K
            try simp only [Act.put, sA, sB, sC]
            generalize wg0.alloc (.cells #[.slice none 0 0, .int .i64 0, .bool false] 34) = wg1 at *
            generalize wg0.heap.size = ydb1 at *
            refine wpAnyH_ready (rs := [10]) (by kernel_rfl) (by simp) (AllReadyH.cons (o := ⟨some 63, _, _, _, _, _⟩) rfl (fun K hK => ?_) AllReadyH.nil)
            go_simp
            refine (jwrite_at (d := ⟨l, -1, false⟩) A2' n2' c2' g note HWR.out _ R (by omega) (by show (-1 : Int) ≤ _; omega) (by omega) hnote).mono ?_
            rintro e wf2 ⟨⟨A3, n3, c3, rfl, R3⟩, hb⟩
            (try dsimp only at R3)
            simp only [rv]
            (try dsimp only)
            replace X := X.belowH hb
            replace L := L.belowH hb
            replace YD := YD.belowH hb
            replace YR := YR.belowH hb
            replace R := R.belowH hb
            have hsz2 := hb.size
            replace b := b.trans (hb.mono b.size)
            clear hb
            go_simp
            refine hK.out _ _ (by exact ⟨X.at 0 rfl, X.at 1 rfl, X.at 2 rfl, L.at 1 rfl, cell_below2 C2.out b hbw⟩) (fun hHeld3 => ?_)
            clear hK hHeld2 K
            try simp only [Act.put, sA, sB, sC]
            refine tk 11 52 rfl hHeld3 ?_
            refine tk 12 64 rfl hHeld3 ?_
            refine tk 13 65 rfl hHeld3 ?_
            refine tk 14 66 rfl hHeld3 ?_
            refine wpAnyH_ready (rs := [17]) (by kernel_rfl) (by simp) (AllReadyH.cons (o := ⟨none, _, _, _, _, _⟩) rfl (fun K hK => ?_) AllReadyH.nil)
            have a0 := YD.at 0 rfl
            have a1 := YD.at 1 rfl
            have a2 := YD.at 2 rfl
            have ac := YD.cold
            go_simp
            replace R3 := R3.box3 YD (.slice A3 n3 c3) (.int .i64 (-1)) (.bool false)
            replace YR := YR.other3' (show yrb0 ≠ ydb1 by omega) (.slice A3 n3 c3) (.int .i64 (-1)) (.bool false)
            replace X := X.other3' (show xb ≠ ydb1 by omega) (.slice A3 n3 c3) (.int .i64 (-1)) (.bool false)
            replace L := L.other3' (show lb ≠ ydb1 by omega) (.slice A3 n3 c3) (.int .i64 (-1)) (.bool false)
            replace YD := YD.three (.slice A3 n3 c3) (.int .i64 (-1)) (.bool false)
            replace b := below_three b (show W.heap.size ≤ ydb1 by omega) (.slice A3 n3 c3) (.int .i64 (-1)) (.bool false)
            clear a0 a1 a2 ac
            refine hK.out _ _ (by exact ⟨X.at 0 rfl, X.at 1 rfl, X.at 2 rfl, L.at 1 rfl, cell_below2 C2.out b hbw⟩) (fun hHeld4 => ?_)
            clear hK hHeld3 K
            try simp only [Act.put, sA, sB, sC]
            generalize ((wf2.setCell ⟨ydb1, 0, none⟩ (.slice A3 n3 c3)).setCell ⟨ydb1, 1, none⟩ (.int .i64 (-1))).setCell ⟨ydb1, 2, none⟩ (.bool false) = wh at *
            refine wpAnyH_ready (rs := [18]) (by kernel_rfl) (by simp) (AllReadyH.cons (o := ⟨none, _, _, _, _, _⟩) rfl (fun K hK => ?_) AllReadyH.nil)
            have a0 := YR.at 0 rfl
            have a1 := YR.at 1 rfl
            have a2 := YR.at 2 rfl
            have ac := YR.cold
            go_simp
            replace R3 := R3.box3 YR (.int .i64 ((k : Int) + 2)) (.int .i64 g) (.string (strB note))
            replace YD := YD.other3' (show ydb1 ≠ yrb0 by omega) (.int .i64 ((k : Int) + 2)) (.int .i64 g) (.string (strB note))
            replace X := X.other3' (show xb ≠ yrb0 by omega) (.int .i64 ((k : Int) + 2)) (.int .i64 g) (.string (strB note))
            replace L := L.other3' (show lb ≠ yrb0 by omega) (.int .i64 ((k : Int) + 2)) (.int .i64 g) (.string (strB note))
            replace YR := YR.three (.int .i64 ((k : Int) + 2)) (.int .i64 g) (.string (strB note))
            replace b := below_three b (show W.heap.size ≤ yrb0 by omega) (.int .i64 ((k : Int) + 2)) (.int .i64 g) (.string (strB note))
            clear a0 a1 a2 ac
            refine hK.out _ _ (by exact ⟨X.at 0 rfl, X.at 1 rfl, X.at 2 rfl, L.at 1 rfl, cell_below2 C2.out b hbw⟩) (fun hHeld5 => ?_)
            clear hK hHeld4 K
            try simp only [Act.put, sA, sB, sC]
            refine tk 19 13 rfl hHeld5 ?_
            refine wpAnyH_done (by kernel_rfl) ?_ _
            clear hHeld5
            go_wp2_with fail
            go_meet
            exact ⟨ydb1, yrb0, A3, n3, c3, rfl, rfl, rfl, by omega, by omega, YD, YR, R3, X, L, b⟩
      case rest =>
        clear X L R b
        obtain ⟨yb, rb, A3, n3, c3, rfl, rfl, rfl, ⟨hy1, hy2⟩, ⟨hs1, hs2, hs3, hs4, hs5⟩, YD, YR, R3, X, L, b⟩ := hcut
        go_wp2_with fail
        replace X := X.drew
        replace L := L.drew
        replace YD := YD.drew
        replace YR := YR.drew
        replace R3 := R3.drew
        replace b := b.drew
        have u0 := YR.at 0 rfl
        have u1 := YR.at 1 rfl
        have u2 := YR.at 2 rfl
        have g1 := L.at 1 rfl
        have d2 := cell_below2 C2.out b hbw
        refine wp_region_held_drew (S := (fun w' => w'.cell? ⟨rb, 0, none⟩ = some (.int .i64 ((k : Int) + 2)) ∧ w'.cell? ⟨rb, 1, none⟩ = some (.int .i64 g) ∧ w'.cell? ⟨rb, 2, none⟩ = some (.string (strB note)) ∧ w'.cell? ⟨lb, 1, none⟩ = some (.int .i64 x.gen) ∧ w'.cell? ⟨bw, ow + k, none⟩ = some (.string (strB note)))) (by kernel_rfl) (by exact ⟨u0, u1, u2, g1, d2⟩) (fun hHeld0 => ?_)
        refine tk 0 67 rfl hHeld0 ?_
        refine tk 1 68 rfl hHeld0 ?_
        refine tk 2 69 rfl hHeld0 ?_
        refine tk 3 70 rfl hHeld0 ?_
        refine tk 4 71 rfl hHeld0 ?_
        refine tk 5 72 rfl hHeld0 ?_
        refine tk 6 73 rfl hHeld0 ?_
        refine tk 7 74 rfl hHeld0 ?_
        refine tk 8 75 rfl hHeld0 ?_
        refine tk 9 76 rfl hHeld0 ?_
        refine tk 10 77 rfl hHeld0 ?_
        refine tk 11 78 rfl hHeld0 ?_
        refine tk 12 79 rfl hHeld0 ?_
        refine tk 13 80 rfl hHeld0 ?_
        refine tk 14 81 rfl hHeld0 ?_
        refine tk 15 82 rfl hHeld0 ?_
        refine tk 16 83 rfl hHeld0 ?_
        refine tk 17 84 rfl hHeld0 ?_
        refine wpAnyH_done (by kernel_rfl) ?_ _
        generalize wc.drew = wm at *
        clear wm2 wg wg2 wk2 wk3 hm2
        have x0 := X.at 0 rfl
        have x1 := X.at 1 rfl
        have x2 := X.at 2 rfl
        have xc := X.cold
        have g0 := L.at 0 rfl
        have g2 := L.at 2 rfl
        have gc := L.cold
        have y0 := YD.at 0 rfl
        have y1 := YD.at 1 rfl
        have y2 := YD.at 2 rfl
        go_upto_region 16 with fail
        go_region
        have R7 := ((R3.box3 X (.slice A3 n3 c3) (.int .i64 (-1)) (.bool false)).box3 (L.other3' (show lb ≠ xb by omega) (.slice A3 n3 c3) (.int .i64 (-1)) (.bool false)) (.int .i64 ((k : Int) + 2)) (.int .i64 g) (.string (strB note))).drew
        have X7 := ((X.three (.slice A3 n3 c3) (.int .i64 (-1)) (.bool false)).other3' (show xb ≠ lb by omega) (.int .i64 ((k : Int) + 2)) (.int .i64 g) (.string (strB note))).drew
        have L7 := ((L.other3' (show lb ≠ xb by omega) (.slice A3 n3 c3) (.int .i64 (-1)) (.bool false)).three (.int .i64 ((k : Int) + 2)) (.int .i64 g) (.string (strB note))).drew
        have b7 := (below_three (below_three b hwx (.slice A3 n3 c3) (.int .i64 (-1)) (.bool false)) hwl (.int .i64 ((k : Int) + 2)) (.int .i64 g) (.string (strB note))).drew
        go_wp2
        go_roundw
        case rel => exact ⟨k + 1, lq, ⟨(k : Int) + 2, g, note⟩, A3, n3, c3, by omega, by go_num, HLQ.out, HIQ.out, HHQ.out, ⟨by show (k : Int) + 2 = _; push_cast; omega, HBD.out⟩, X7, R7, L7, b7⟩
        case measure => simp [intOf]; omega
    · skip
      have hkk : ¬ (k : Int) < (n : Int) := by omega
      obtain rfl : k = n := by omega
      have ELA : Hid (J.last ⟨l, -1, false⟩ = (x, 0)) := Lib.hid (J.last_of (d := ⟨l, -1, false⟩) ⟨by show l.length ≤ 64; have := HL3.out; omega, by show (-1 : Int) ≤ -1; omega⟩ rfl HIL.out)
      have qx := fun w => (eq_rc x x w).trans (by rw [rcB_self])
      have HWF : Hid (∀ s ∈ l, s.length = 64) := Lib.hid R.2.1
      have x0 := X.at 0 rfl
      have x1 := X.at 1 rfl
      have x2 := X.at 2 rfl
      go_wp2_with fail
      clear x0 x1 x2
      refine (jlast_at (d := ⟨l, -1, false⟩) A2' n2' c2' ELA.out _ R (by omega)).mono ?_
      rintro e v5 ⟨rfl, hb⟩
      simp only [rv]
      replace X := (X.belowH hb).alloc (.cells #[.int .i64 x.seq, .int .i64 x.gen, .string (strB x.note)] 23)
      replace L := (L.belowH hb).alloc (.cells #[.int .i64 x.seq, .int .i64 x.gen, .string (strB x.note)] 23)
      replace R := (R.belowH hb).alloc (.cells #[.int .i64 x.seq, .int .i64 x.gen, .string (strB x.note)] 23)
      replace b := b.trans (hb.mono b.size)
      clear hb
      have Zb := Box.new v5 #[.int .i64 x.seq, .int .i64 x.gen, .string (strB x.note)] 23
      replace b := b.alloc b.size (.cells #[.int .i64 x.seq, .int .i64 x.gen, .string (strB x.note)] 23)
      go_wp2
      generalize v5.alloc (.cells #[.int .i64 x.seq, .int .i64 x.gen, .string (strB x.note)] 23) = v6 at *
      generalize v5.heap.size = zb at *
      go_loopw [16, 17] (fun fv iv wr => ∃ (i : Nat) (fo : Int), i ≤ n2' ∧ iv = .int .i64 (i : Int) ∧ fv = .int .i64 fo ∧ fo = (J.cnt n2' k i : Int) ∧ Box wr xb 34 #[.slice A2' n2' c2', .int .i64 (-1), .bool false] ∧ KRd wr ⟨⟨l, -1, false⟩, A2', n2', c2'⟩ ∧ Box wr lb 23 #[.int .i64 x.seq, .int .i64 x.gen, .string (strB x.note)] ∧ Box wr zb 23 #[.int .i64 x.seq, .int .i64 x.gen, .string (strB x.note)] ∧ Below W.heap.size W wr) (fun _ iv _ => n2' - (intOf iv).toNat)
      case atStart => exact ⟨0, 0, by omega, rfl, rfl, by unfold J.cnt; split <;> simp, X, R, L, Zb, b⟩
      case round =>
        clear X R L Zb b
        obtain ⟨i, fo, hi, rfl, rfl, hfo, X, R, L, Zb, b⟩ := hrel
        have HFO := Lib.hid hfo
        have hfb : 0 ≤ fo ∧ fo ≤ 7 := by
          have h1 : J.cnt n2' k i ≤ i := by unfold J.cnt; split <;> omega
          omega
        clear hfo
        have x0 := X.at 0 rfl
        by_cases hin : i < n2'
        · obtain ⟨bk, ok, s, rfl, hbk, hs, h64, hcell⟩ := R.1.atS HWF.out HL3.out hin
          have H64 := Lib.hid h64
          have HC : Hid (wr.rangeAt bk (ok + i * 64) (U s)) := Lib.hid hcell
          have HH : Hid ((J.find s).2 = 0 ↔ J.has n2' k i) := Lib.hid (by have h := HIH.out i s hs; rw [HL3.out] at h; exact h)
          have HST := Lib.hid (J.cnt_step (n := n2') (k := k) (i := i) hin)
          have hi0 : (0 : Int) ≤ (i : Int) := by omega
          have wf1 : wrap64 (fo + 1) = fo + 1 := wrap64_fit (by omega) (by omega)
          have wf2 : IntKind.i64.wrap (fo + 1) = fo + 1 := IntWalk.i64_in _ (by omega)
          clear hs h64 hcell
          go_wp2_with (first | ((with_reducible refine sec_take _ bk (ok + i * 64) s H64.out HC.out ?hw ?hx ?_); (case hw => rfl); (case hx => rfl)))
          clear HC x0
          obtain ⟨⟨y, ye⟩, hy⟩ : ∃ z, J.find s = z := ⟨_, rfl⟩
          have HFY := Lib.hid hy
          clear hy
          refine (jfind_at HFY.out H64.out _).mono ?_
          rintro e v7 ⟨rfl, hb⟩
          simp only [rv]
          replace X := (X.belowH hb).alloc (.cells #[.int .i64 y.seq, .int .i64 y.gen, .string (strB y.note)] 23)
          replace L := (L.belowH hb).alloc (.cells #[.int .i64 y.seq, .int .i64 y.gen, .string (strB y.note)] 23)
          replace Zb := (Zb.belowH hb).alloc (.cells #[.int .i64 y.seq, .int .i64 y.gen, .string (strB y.note)] 23)
          replace R := (R.belowH hb).alloc (.cells #[.int .i64 y.seq, .int .i64 y.gen, .string (strB y.note)] 23)
          replace b := (b.trans (hb.mono b.size)).alloc (b.trans (hb.mono b.size)).size (.cells #[.int .i64 y.seq, .int .i64 y.gen, .string (strB y.note)] 23)
          clear hb
          by_cases hye : ye = 0
          · subst hye
            have HN : Hid (fo + 1 = (J.cnt n2' k (i + 1) : Int)) := Lib.hid (by rw [HST.out, if_pos (HH.out.1 (by rw [HFY.out])), HFO.out]; push_cast; rfl)
            go_wp2
            go_roundw
            case rel => exact ⟨i + 1, fo + 1, by omega, by go_num, rfl, HN.out, X, R, L, Zb, b⟩
            case measure => simp [intOf]; omega
          · have t1 : (ye == 0) = false := beq_eq_false_iff_ne.2 hye
            have HN : Hid (fo = (J.cnt n2' k (i + 1) : Int)) := Lib.hid (by rw [HST.out, if_neg (fun h => hye (by have h1 := HH.out.2 h; rw [HFY.out] at h1; exact h1)), HFO.out])
            clear hye
            go_wp2
            go_roundw
            case rel => exact ⟨i + 1, fo, by omega, by go_num, rfl, HN.out, X, R, L, Zb, b⟩
            case measure => simp [intOf]; omega
        · have hii : ¬ (i : Int) < (n2' : Int) := by omega
          have HE : Hid (fo = min (n2' : Int) ((k : Int) + 1)) := Lib.hid (by
            have e : i = n2' := Nat.le_antisymm hi (Nat.le_of_not_lt hin)
            rw [HFO.out, e, J.cnt_end n2' k (Nat.lt_of_lt_of_le (by decide) hq1)]
            exact cast_min _ _)
          have wk1 : wrap64 ((k : Int) + 1) = (k : Int) + 1 := wrap64_fit (by omega) (by omega)
          have WK1 := Lib.hid wk1
          clear wk1
          have wk2 : IntKind.i64.wrap ((k : Int) + 1) = (k : Int) + 1 := IntWalk.i64_in _ (by omega)
          have wk1 := WK1.out
          have g0 := L.at 0 rfl
          have g1 := L.at 1 rfl
          have g2 := L.at 2 rfl
          have z0 := Zb.at 0 rfl
          have z1 := Zb.at 1 rfl
          have z2 := Zb.at 2 rfl
          go_wp2
          all_goals clear wk1 wk2 WK1
          all_goals go_ret
          all_goals exact ⟨ret_bool (by rw [HE.out]; simp; omega), b⟩
end Go.Proofs.Ytipccalbhlhljaa

