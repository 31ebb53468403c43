/- The walk of block's law on torn writes. -/
import Derived.Test.YtijpmjedohjikaaKTear
import Derived.Test.YtijpmjedohjikaaKTear0
import Derived.Deep.DeepCutAuto
namespace Go.Proofs.Ytijpmjedohjikaa
set_option linter.unusedVariables false
set_option linter.unusedSimpArgs false
open Go.RowKit
theorem zeros4_len : ∀ s ∈ zeros4, s.length = 64 := fun s hs => by rw [(List.mem_replicate.1 hs).2]; exact zero_len
theorem range_below {B b o : Nat} {w w' : World} {cs : List Value} (h : w.rangeAt b o cs) (hb : Below B w w') (hlt : b < B) : w'.rangeAt b o cs := fun j v hv => (hb.cell (p := ⟨b, o + j, none⟩) hlt).trans (h j v hv)
theorem new4 : K.new 4 = (⟨zeros4, -1, false⟩, 0) := by unfold K.new; rw [if_neg (by omega)]; rfl
theorem arm4 {f : Int} (h : 0 ≤ f) : K.arm ⟨zeros4, -1, false⟩ f = (⟨zeros4, f, false⟩, 0) := by
  unfold K.arm
  rw [if_neg (Classical.not_not.2 ⟨by decide, by show (-1 : Int) ≤ -1; omega⟩), if_neg (by simp), if_neg (by omega)]
/-- what holds ahead of write k -/
def Ahead (W : World) (xb vb n : Nat) (lf iv : Value) (wr : World) : Prop := ∃ (k : Nat) (f : Int) (ws : List (List UInt8)) (A2 : Option Addr) (n2 c2 : Nat), k ≤ n ∧ lf = .int .i64 f ∧ iv = .int .i64 (k : Int) ∧ (0 ≤ f ∧ f ≤ 65535) ∧ ws.length = 4 ∧ (∀ y ∈ ws, y.length = 64) ∧
  Box wr xb 24 #[.slice A2 n2 c2, .int .i64 f, .bool false] ∧ KRd wr ⟨⟨ws, f, false⟩, A2, n2, c2⟩ ∧ Box wr vb 43 (S ws).toArray ∧ Below W.heap.size W wr
/-- what holds behind a write -/
def Behind (W : World) (xb vb : Nat) (ws : List (List UInt8)) (y : Dk) (er : Int) (s12 s13 : Value) (wx : World) : Prop := ∃ (xb2 : Nat) (A3 : Option Addr) (n3 c3 : Nat), s12 = .pointer (some ⟨xb2, 0, none⟩) ∧ s13 = .int .i64 er ∧ W.heap.size ≤ xb2 ∧ xb2 ≠ xb ∧ xb2 ≠ vb ∧ (∀ bk ok, A3 = some ⟨bk, ok, none⟩ → bk ≠ vb) ∧
  Box wx xb2 24 #[.slice A3 n3 c3, .int .i64 y.fuse, .bool y.down] ∧ KRd wx ⟨y, A3, n3, c3⟩ ∧ (∃ v0 v1 v2, Box wx xb 24 #[v0, v1, v2]) ∧ Box wx vb 43 (S ws).toArray ∧ Below W.heap.size W wx

set_option maxHeartbeats 8000000 in
set_option maxRecDepth 100000 in
theorem law_BlockTears (A : Option Addr) (n c : Nat) (l : List Wt) (a1 : Int) (W : World) (w0 : WrRd W A n c l) (w1 : (Lit.int .u16 a1).wf = true) :
    Calls Try.prog 5 #[.slice A n c, .int .u16 a1] W fun e w' => e = .returned (.bool true) ∧ Below W.heap.size W w' := by
  have bf := wf_bounds_u16 w1
  have hnm : n ≤ 9223372036854775807 := by have := w0.2; omega
  have WR := Lib.hid w0
  clear w1 w0
  go_enter Try.func5, Try.ntmps5
  go_wp2_with fail
  refine (kalive_any _).mono ?_
  rintro e v1 ⟨rfl, b⟩
  by_cases hn : 100 < n
  · go_wp2
    go_ret
    exact ⟨rfl, b⟩
  go_wp2_with fail
  have E4 := Lib.hid new4
  have EA := Lib.hid (arm4 (f := a1) (by omega))
  have wf' : IntKind.i64.wrap a1 = a1 := IntWalk.i64_in _ (by omega)
  refine (knew_at E4.out _).mono ?_
  rintro e v2 ⟨⟨A2, n2, c2, rfl, R2, fr⟩, hb⟩
  clear fr
  try dsimp only at R2
  replace b := b.trans (hb.mono b.size)
  clear hb
  have HV : Hid (W.heap.size ≤ v2.heap.size) := Lib.hid b.size
  have X := Box.new v2 #[.slice A2 n2 c2, .int .i64 (-1), .bool false] 24
  replace R2 := R2.alloc (.cells #[.slice A2 n2 c2, .int .i64 (-1), .bool false] 24)
  replace b := b.alloc b.size (.cells #[.slice A2 n2 c2, .int .i64 (-1), .bool false] 24)
  have x0 := X.at 0 rfl
  have x1 := X.at 1 rfl
  have x2 := X.at 2 rfl
  have hk2 : n2 ≤ 1000 := by have h1 := R2.len; have h2 : zeros4.length = 4 := rfl; simp only at h1; omega
  (try dsimp only)
  go_wp2_with fail
  generalize v2.alloc (.cells #[.slice A2 n2 c2, .int .i64 (-1), .bool false] 24) = s2 at *
  refine (karm_at (x := ⟨zeros4, -1, false⟩) A2 n2 c2 a1 EA.out _ R2 hk2).mono ?_
  rintro e v3 ⟨⟨A3, n3, c3, rfl, R3, fr⟩, hb⟩
  clear fr
  try dsimp only at R3
  replace X := X.belowH hb
  replace b := b.trans (hb.mono b.size)
  clear hb x0 x1 x2 R2
  have x0 := X.at 0 rfl
  have x1 := X.at 1 rfl
  have x2 := X.at 2 rfl
  have xc := X.cold
  (try dsimp only)
  have R := R3.box3 X (.slice A3 n3 c3) (.int .i64 a1) (.bool false)
  have X' := X.three (.slice A3 n3 c3) (.int .i64 a1) (.bool false)
  have b' := below_set (o := 2) (below_set (o := 1) (below_set (o := 0) b HV.out (.slice A3 n3 c3)) HV.out (.int .i64 a1)) HV.out (.bool false)
  clear R3
  go_wp2_with (first | with_reducible refine want_new _ ?_)
  have hs3 : (((v3.setCell ⟨v2.heap.size, 0, none⟩ (.slice A3 n3 c3)).setCell ⟨v2.heap.size, 1, none⟩ (.int .i64 a1)).setCell ⟨v2.heap.size, 2, none⟩ (.bool false)).heap.size = v3.heap.size := by simp
  generalize ((v3.setCell ⟨v2.heap.size, 0, none⟩ (.slice A3 n3 c3)).setCell ⟨v2.heap.size, 1, none⟩ (.int .i64 a1)).setCell ⟨v2.heap.size, 2, none⟩ (.bool false) = s3 at *
  clear X b x0 x1 x2 xc
  have V := Box.new s3 (S zeros4).toArray 43
  have R := R.alloc (.cells (S zeros4).toArray 43)
  have X := X'.alloc (.cells (S zeros4).toArray 43)
  have b := b'.alloc b'.size (.cells (S zeros4).toArray 43)
  have hxv : v2.heap.size < s3.heap.size := X'.lt
  have hwv : W.heap.size ≤ s3.heap.size := b'.size
  have hwx : W.heap.size ≤ v2.heap.size := HV.out
  rw [hs3] at V hxv hwv
  clear hs3
  clear X' b'
  generalize s3.alloc (.cells (S zeros4).toArray 43) = s4 at *
  generalize v3.heap.size = vb at *
  generalize v2.heap.size = xb at *
  go_loopw [9, 10] (Ahead W xb vb n) (fun _ v _ => n - (intOf v).toNat)
  case atStart => exact ⟨0, a1, zeros4, A3, n3, c3, by omega, rfl, rfl, by omega, rfl, zeros4_len, X, R, V, b⟩
  case round =>
    clear X R V b HV
    obtain ⟨k, f, ws, A2', n2', c2', hk, rfl, rfl, hf, hws, hwl, X, R, V, b⟩ := hrel
    have HWS := Lib.hid hws
    have HWL := Lib.hid hwl
    clear hws hwl
    have x0 := X.at 0 rfl
    have x1 := X.at 1 rfl
    have x2 := X.at 2 rfl
    by_cases hlt : k < n
    · obtain ⟨bw, ow, t, rfl, hbw, htl, hat0, hrg⟩ := WR.out.at hlt
      obtain ⟨⟨a, s⟩, ⟨ha1, ha2⟩, hs⟩ := t
      dsimp only at hat0 hrg ha1 ha2 hs
      have hat := (b.cell (p := ⟨bw, ow + k * 65, none⟩) hbw).trans hat0
      obtain ⟨k2, hk2'⟩ : ∃ q : Nat, a.tmod 4 = (q : Int) := Int.eq_ofNat_of_zero_le (Int.tmod_nonneg _ ha1)
      have hk24 : k2 < 4 := by have := Int.tmod_lt_of_pos a (show (0 : Int) < 4 by omega); omega
      have wa : IntKind.i64.wrap a = a := IntWalk.i64_in _ (by omega)
      have hk0 : (0 : Int) ≤ (k : Int) := by omega
      have HRG := Lib.hid hrg
      have HS := Lib.hid hs
      clear htl hrg hs hat0
      have hkn : n2' ≤ 1000 := by have h1 := R.len; have h2 := HWS.out; simp only at h1; omega
      obtain ⟨⟨y, er⟩, hy⟩ : ∃ z, K.put ⟨ws, f, false⟩ (k2 : Int) s = z := ⟨_, rfl⟩
      have HY := Lib.hid hy
      clear hy
      have hrt : K.right ⟨ws, f, false⟩ := ⟨by show ws.length ≤ 64; have := HWS.out; omega, by show -1 ≤ f; omega⟩
      have HAK := Lib.hid (K.asked_in (d := ⟨ws, f, false⟩) hrt rfl (k := k2) (by show k2 < ws.length; have := HWS.out; omega))
      clear hrt
      go_upto_region 15 with fail
      clear x0 x1 x2 hat
      go_cut [12, 13] (Behind W xb vb ws y er)
      case first =>
        replace X := X.drew
        replace V := V.drew
        replace R := R.drew
        replace b := b.drew
        refine wp_region_held_drew (S := (fun w' => w'.cell? ⟨xb, 0, none⟩ = some (.slice A2' n2' c2') ∧ w'.cell? ⟨xb, 1, none⟩ = some (.int .i64 f) ∧ w'.cell? ⟨xb, 2, none⟩ = some (.bool false) ∧ w'.rangeAt bw (ow + k * 65 + 1) (U s))) (by kernel_rfl) (by exact ⟨X.at 0 rfl, X.at 1 rfl, X.at 2 rfl, range_below HRG.out b hbw⟩) (fun hHeld0 => ?_)
        generalize wr.drew = wa at *
        have hXl := X.lt
        have hVl := V.lt
        refine tk 0 56 rfl hHeld0 ?_
        refine tk 1 57 rfl hHeld0 ?_
        refine tk 2 58 rfl hHeld0 ?_
        refine tk 3 59 rfl hHeld0 ?_
        refine tk 4 60 rfl hHeld0 ?_
        refine tk 5 61 rfl hHeld0 ?_
        refine tk 6 62 rfl hHeld0 ?_ (hv := fun w' hSw => exec_sec bw (ow + k * 65 + 1) s HS.out hSw.2.2.2 rfl)
        refine wpAnyH_ready (rs := [7, 11]) (by kernel_rfl) (by simp) (AllReadyH.cons (o := ⟨some 63, _, _, _, _, _⟩) rfl (fun K hK => ?_) (AllReadyH.cons (o := ⟨some 12, _, _, _, _, _⟩) rfl (fun K hK => ?_) AllReadyH.nil))
        · skip
          go_simp
          refine (kput_at A2' n2' c2' (k2 : Int) s HS.out HY.out _ R hkn (by show f ≤ _; omega)).mono ?_
          rintro e wb ⟨⟨A3, n3, c3, rfl, R3, fr⟩, hb⟩
          have hfr : ∀ bk ok, A3 = some ⟨bk, ok, none⟩ → bk ≠ vb := fun bk ok hA => by have h9 := fr HAK.out bk ok hA; omega
          clear fr R
          (try dsimp only at R3)
          (try dsimp only)
          replace X := X.belowH hb
          replace V := V.belowH hb
          have hsb := hb.size
          replace b := b.trans (hb.mono b.size)
          clear hb
          go_simp
          refine hK.out _ _ (by exact ⟨X.at 0 rfl, X.at 1 rfl, X.at 2 rfl, range_below HRG.out b hbw⟩) (fun hHeld1 => ?_)
          clear hK hHeld0 K
          try simp only [Act.put, sA, sB, sC]
          refine tk 8 55 rfl hHeld1 ?_
          refine tk 9 64 rfl hHeld1 ?_
          refine tk 10 65 rfl hHeld1 ?_
          refine wpAnyH_ready (rs := [11]) (by kernel_rfl) (by simp) (AllReadyH.cons (o := ⟨some 12, _, _, _, _, _⟩) rfl (fun K hK => ?_) AllReadyH.nil)
          go_simp
          have O := Box.new wb #[.slice none 0 0, .int .i64 0, .bool false] 24
          replace X := X.alloc (.cells #[.slice none 0 0, .int .i64 0, .bool false] 24)
          replace V := V.alloc (.cells #[.slice none 0 0, .int .i64 0, .bool false] 24)
          replace R3 := R3.alloc (.cells #[.slice none 0 0, .int .i64 0, .bool false] 24)
          replace b := b.alloc b.size (.cells #[.slice none 0 0, .int .i64 0, .bool false] 24)
          refine hK.out _ _ (by exact ⟨X.at 0 rfl, X.at 1 rfl, X.at 2 rfl, range_below HRG.out b hbw⟩) (fun hHeld2 => ?_)
          clear hK hHeld1 K
          try simp only [Act.put, sA, sB, sC]
          generalize wb.alloc (.cells #[.slice none 0 0, .int .i64 0, .bool false] 24) = wd at *
          refine wpAnyH_ready (rs := [12]) (by kernel_rfl) (by simp) (AllReadyH.cons (o := ⟨none, _, _, _, _, _⟩) rfl (fun K hK => ?_) AllReadyH.nil)
          have o0 := O.at 0 rfl
          have o1 := O.at 1 rfl
          have o2 := O.at 2 rfl
          have oc := O.cold
          go_simp
          replace R3 := R3.box3 O (.slice A3 n3 c3) (.int .i64 y.fuse) (.bool y.down)
          replace O := O.three (.slice A3 n3 c3) (.int .i64 y.fuse) (.bool y.down)
          replace X := ((X.other (show xb ≠ wb.heap.size by omega) (o := 0) (.slice A3 n3 c3)).other (show xb ≠ wb.heap.size by omega) (o := 1) (.int .i64 y.fuse)).other (show xb ≠ wb.heap.size by omega) (o := 2) (.bool y.down)
          replace V := ((V.other (show vb ≠ wb.heap.size by omega) (o := 0) (.slice A3 n3 c3)).other (show vb ≠ wb.heap.size by omega) (o := 1) (.int .i64 y.fuse)).other (show vb ≠ wb.heap.size by omega) (o := 2) (.bool y.down)
          replace b := below_set (o := 2) (below_set (o := 1) (below_set (o := 0) b (show W.heap.size ≤ wb.heap.size by omega) (.slice A3 n3 c3)) (show W.heap.size ≤ wb.heap.size by omega) (.int .i64 y.fuse)) (show W.heap.size ≤ wb.heap.size by omega) (.bool y.down)
          clear o0 o1 o2 oc
          refine hK.out _ _ (by exact ⟨X.at 0 rfl, X.at 1 rfl, X.at 2 rfl, range_below HRG.out b hbw⟩) (fun hHeld3 => ?_)
          clear hK hHeld2 K
          try simp only [Act.put, sA, sB, sC]
          refine tk 13 13 rfl hHeld3 ?_
          refine wpAnyH_done (by kernel_rfl) ?_ _
          clear hHeld3
          go_wp2_with fail
          go_meet
          exact ⟨wb.heap.size, A3, n3, c3, rfl, rfl, by omega, by omega, by omega, hfr, O, R3, ⟨_, _, _, X⟩, V, b⟩
        · skip
          go_simp
          have O := Box.new wa #[.slice none 0 0, .int .i64 0, .bool false] 24
          replace X := X.alloc (.cells #[.slice none 0 0, .int .i64 0, .bool false] 24)
          replace V := V.alloc (.cells #[.slice none 0 0, .int .i64 0, .bool false] 24)
          replace R := R.alloc (.cells #[.slice none 0 0, .int .i64 0, .bool false] 24)
          replace b := b.alloc b.size (.cells #[.slice none 0 0, .int .i64 0, .bool false] 24)
          refine hK.out _ _ (by exact ⟨X.at 0 rfl, X.at 1 rfl, X.at 2 rfl, range_below HRG.out b hbw⟩) (fun hHeld1 => ?_)
          clear hK hHeld0 K
          try simp only [Act.put, sA, sB, sC]
          generalize wa.alloc (.cells #[.slice none 0 0, .int .i64 0, .bool false] 24) = wd at *
          have hVm := V.lt
          refine wpAnyH_ready (rs := [7]) (by kernel_rfl) (by simp) (AllReadyH.cons (o := ⟨some 63, _, _, _, _, _⟩) rfl (fun K hK => ?_) AllReadyH.nil)
          go_simp
          refine (kput_at A2' n2' c2' (k2 : Int) s HS.out HY.out _ R hkn (by show f ≤ _; omega)).mono ?_
          rintro e wb ⟨⟨A3, n3, c3, rfl, R3, fr⟩, hb⟩
          have hfr : ∀ bk ok, A3 = some ⟨bk, ok, none⟩ → bk ≠ vb := fun bk ok hA => by have h9 := fr HAK.out bk ok hA; omega
          clear fr R
          (try dsimp only at R3)
          (try dsimp only)
          replace X := X.belowH hb
          replace V := V.belowH hb
          replace O := O.belowH hb
          have hsb := hb.size
          replace b := b.trans (hb.mono b.size)
          clear hb
          go_simp
          refine hK.out _ _ (by exact ⟨X.at 0 rfl, X.at 1 rfl, X.at 2 rfl, range_below HRG.out b hbw⟩) (fun hHeld2 => ?_)
          clear hK hHeld1 K
          try simp only [Act.put, sA, sB, sC]
          refine tk 8 55 rfl hHeld2 ?_
          refine tk 9 64 rfl hHeld2 ?_
          refine tk 10 65 rfl hHeld2 ?_
          refine wpAnyH_ready (rs := [12]) (by kernel_rfl) (by simp) (AllReadyH.cons (o := ⟨none, _, _, _, _, _⟩) rfl (fun K hK => ?_) AllReadyH.nil)
          have o0 := O.at 0 rfl
          have o1 := O.at 1 rfl
          have o2 := O.at 2 rfl
          have oc := O.cold
          go_simp
          replace R3 := R3.box3 O (.slice A3 n3 c3) (.int .i64 y.fuse) (.bool y.down)
          replace O := O.three (.slice A3 n3 c3) (.int .i64 y.fuse) (.bool y.down)
          replace X := ((X.other (show xb ≠ wa.heap.size by omega) (o := 0) (.slice A3 n3 c3)).other (show xb ≠ wa.heap.size by omega) (o := 1) (.int .i64 y.fuse)).other (show xb ≠ wa.heap.size by omega) (o := 2) (.bool y.down)
          replace V := ((V.other (show vb ≠ wa.heap.size by omega) (o := 0) (.slice A3 n3 c3)).other (show vb ≠ wa.heap.size by omega) (o := 1) (.int .i64 y.fuse)).other (show vb ≠ wa.heap.size by omega) (o := 2) (.bool y.down)
          replace b := below_set (o := 2) (below_set (o := 1) (below_set (o := 0) b (show W.heap.size ≤ wa.heap.size by omega) (.slice A3 n3 c3)) (show W.heap.size ≤ wa.heap.size by omega) (.int .i64 y.fuse)) (show W.heap.size ≤ wa.heap.size by omega) (.bool y.down)
          clear o0 o1 o2 oc
          refine hK.out _ _ (by exact ⟨X.at 0 rfl, X.at 1 rfl, X.at 2 rfl, range_below HRG.out b hbw⟩) (fun hHeld3 => ?_)
          clear hK hHeld2 K
          try simp only [Act.put, sA, sB, sC]
          refine tk 13 13 rfl hHeld3 ?_
          refine wpAnyH_done (by kernel_rfl) ?_ _
          clear hHeld3
          go_wp2_with fail
          go_meet
          exact ⟨wa.heap.size, A3, n3, c3, rfl, rfl, by omega, by omega, by omega, hfr, O, R3, ⟨_, _, _, X⟩, V, b⟩
      case rest =>
        clear X R V b
        obtain ⟨xb2, A3, n3, c3, rfl, rfl, h1, h2, h3, hfr, O, R3, ⟨v0, v1, v2, X⟩, V, b⟩ := hcut
        have HFR := Lib.hid hfr
        clear hfr
        by_cases h64 : f < 64
        · obtain ⟨j0, rfl⟩ : ∃ j0 : Nat, f = (j0 : Int) := Int.eq_ofNat_of_zero_le hf.1
          have hj0 : j0 < 64 := by omega
          have hyy : y = ⟨ws.set k2 (K.torn s j0), -1, true⟩ ∧ er = 9 := by
            have e := HY.out
            rw [K.put_torn HAK.out (k := j0) rfl hj0] at e
            injection e with e1 e2
            exact ⟨e1.symm, e2.symm⟩
          obtain ⟨rfl, rfl⟩ := hyy
          have HK2 : Hid (k2 < ws.length) := Lib.hid (by rw [HWS.out]; exact hk24)
          have HT := Lib.hid (boxS_there V HWL.out HK2.out)
          dsimp only at O R3
          go_wp2_with (first | with_reducible refine sec_zero _ ?_ | ((with_reducible refine sec_lay vb (k2 * 64) K.zero zero_len HT.out ?hx ?hy ?_); (case hx => rfl); (case hy => rfl)))
          replace O := Box.apart (w := wc) (b' := vb) h3 (U K.zero) (k2 * 64) _ O
          replace V := boxS_store V HWL.out zero_len HK2.out
          replace R3 := KRd.cells (b := vb) HFR.out R3 (U K.zero) (k2 * 64)
          replace b := below_setCells (b := vb) hwv (U K.zero) (k2 * 64) _ b
          clear HT X
          generalize wc.setCells vb (k2 * 64) (U K.zero) = wd at *
          rw [← K.torn_none s] at V
          go_loopw [14] (fun jv wr => ∃ j : Nat, j ≤ j0 ∧ jv = .int .i64 (j : Int) ∧ Box wr xb2 24 #[.slice A3 n3 c3, .int .i64 (-1), .bool true] ∧ KRd wr ⟨⟨ws.set k2 (K.torn s j0), -1, true⟩, A3, n3, c3⟩ ∧ Box wr vb 43 (S (ws.set k2 (K.torn s j))).toArray ∧ Below W.heap.size W wr) (fun jv _ => j0 - (intOf jv).toNat)
          case atStart => exact ⟨0, by omega, rfl, O, R3, V, b⟩
          case round =>
            clear O R3 V b
            obtain ⟨j, hj, rfl, O, R3, V, b⟩ := hrel
            by_cases hjl : j < j0
            · have hj64 : j < 64 := by omega
              have hjn : (0 : Int) ≤ (j : Int) := by omega
              obtain ⟨x, hx⟩ : ∃ x, s[j]? = some x := ⟨_, List.getElem?_eq_getElem (by rw [HS.out]; exact hj64)⟩
              have bx : wr.cell? ⟨bw, ow + k * 65 + 1 + j, none⟩ = some (.int .u8 (x.toNat : Int)) := range_below HRG.out b hbw j _ (by rw [U_get, hx]; rfl)
              have hl2 := set_all HWL.out (k := k2) (K.torn_len HS.out (k := j) (by omega))
              have hk2l : k2 < (ws.set k2 (K.torn s j)).length := by rw [List.length_set]; exact HK2.out
              obtain ⟨tv, tx⟩ := Option.isSome_iff_exists.1 (boxS_there V hl2 hk2l j hj64).1
              have tf := (boxS_there V hl2 hk2l j hj64).2
              have V2 := boxS_byte V hl2 (k := k2) (s := K.torn s j) (List.getElem?_set_self HK2.out) hj64 x
              rw [K.torn_set HS.out hj64 hx, K.set_set] at V2
              have O2 := O.other (b' := vb) (o := k2 * 64 + j) h3 (.int .u8 (x.toNat : Int))
              have R2 := R3.other (b := vb) (o := k2 * 64 + j) HFR.out (.int .u8 (x.toNat : Int))
              have b2 := below_set (o := k2 * 64 + j) b hwv (.int .u8 (x.toNat : Int))
              clear hx hl2 hk2l V O R3 b
              go_wp2_with fail
              go_region
              replace V2 := V2.drew
              replace O2 := O2.drew
              replace R2 := R2.drew
              replace b2 := b2.drew
              clear bx tx tf
              generalize (wr.setCell ⟨vb, k2 * 64 + j, none⟩ (.int .u8 (x.toNat : Int))).drew = we at *
              go_wp2
              go_roundw
              case rel => exact ⟨j + 1, by omega, by go_num, O2, R2, V2, b2⟩
              case measure => simp [intOf]; omega
            · have hjj : ¬ (j : Int) < (j0 : Int) := by omega
              have V2 : Hid (Box wr vb 43 (S (ws.set k2 (K.torn s j0))).toArray) := Lib.hid (by have e : j = j0 := (by omega); rw [← e]; exact V)
              have hl3 : Hid (∀ y ∈ ws.set k2 (K.torn s j0), y.length = 64) := Lib.hid (set_all HWL.out (k := k2) (K.torn_len HS.out (k := j0) (by omega)))
              have hlw : Hid ((ws.set k2 (K.torn s j0)).length = 4) := Lib.hid (by rw [List.length_set]; exact HWS.out)
              clear V
              generalize ws.set k2 (K.torn s j0) = ws2 at *
              have o0 := O.at 0 rfl
              have o1 := O.at 1 rfl
              have o2 := O.at 2 rfl
              have hr2 : K.right ⟨ws2, -1, true⟩ := ⟨by show ws2.length ≤ 64; have := hlw.out; omega, by show (-1 : Int) ≤ -1; omega⟩
              have hr3 : K.right ⟨ws2, -1, false⟩ := ⟨hr2.1, by show (-1 : Int) ≤ -1; omega⟩
              have EW := Lib.hid (K.wake_right hr2)
              have HR3 := Lib.hid hr3
              clear hr2 hr3
              go_wp2_with fail
              refine (kwake_at (x := ⟨ws2, -1, true⟩) A3 n3 c3 EW.out _ R3 (by have h1 := R3.len; have h2 := hlw.out; simp only at h1; omega)).mono ?_
              rintro e wf ⟨⟨A4, n4, c4, rfl, R4, fr⟩, hb⟩
              clear fr o0 o1 o2 R3
              try dsimp only at R4
              (try dsimp only)
              have V := V2.out.belowH hb
              replace O := O.belowH hb
              replace b := b.trans (hb.mono b.size)
              clear hb V2
              have o0 := O.at 0 rfl
              have o1 := O.at 1 rfl
              have o2 := O.at 2 rfl
              have oc := O.cold
              have R5 := R4.box3 O (.slice A4 n4 c4) (.int .i64 (-1)) (.bool false)
              have O5 := O.three (.slice A4 n4 c4) (.int .i64 (-1)) (.bool false)
              have V5 := ((V.other (show vb ≠ xb2 by omega) (o := 0) (.slice A4 n4 c4)).other (show vb ≠ xb2 by omega) (o := 1) (.int .i64 (-1))).other (show vb ≠ xb2 by omega) (o := 2) (.bool false)
              have b5 := below_set (o := 2) (below_set (o := 1) (below_set (o := 0) b h1 (.slice A4 n4 c4)) h1 (.int .i64 (-1))) h1 (.bool false)
              clear R4 V b
              go_wp2_with fail
              clear o0 o1 o2 oc O
              generalize ((wf.setCell ⟨xb2, 0, none⟩ (.slice A4 n4 c4)).setCell ⟨xb2, 1, none⟩ (.int .i64 (-1))).setCell ⟨xb2, 2, none⟩ (.bool false) = wg at *
              go_loopw [15] (fun jv wr => ∃ j : Nat, j ≤ 4 ∧ jv = .int .i64 (j : Int) ∧ Box wr xb2 24 #[.slice A4 n4 c4, .int .i64 (-1), .bool false] ∧ KRd wr ⟨⟨ws2, -1, false⟩, A4, n4, c4⟩ ∧ Box wr vb 43 (S ws2).toArray ∧ Below W.heap.size W wr) (fun jv _ => 4 - (intOf jv).toNat)
              case atStart => exact ⟨0, by omega, rfl, O5, R5, V5, b5⟩
              case round =>
                clear O5 R5 V5 b5
                obtain ⟨m, hm, rfl, O, R, V, b⟩ := hrel
                have o0 := O.at 0 rfl
                have o1 := O.at 1 rfl
                have o2 := O.at 2 rfl
                by_cases hml : m < 4
                · have hml2 : m < ws2.length := by have := hlw.out; omega
                  obtain ⟨sk, hsk⟩ : ∃ t, ws2[m]? = some t := ⟨_, List.getElem?_eq_getElem hml2⟩
                  have h64' : Hid (sk.length = 64) := Lib.hid (hl3.out sk (List.mem_of_getElem? hsk))
                  have EA' := Lib.hid (K.asked_in (d := ⟨ws2, -1, false⟩) HR3.out rfl hml2)
                  have EG := Lib.hid (K.get_at (d := ⟨ws2, -1, false⟩) EA'.out hsk)
                  have HSK := Lib.hid hsk
                  have EQ := sec_in sk sk h64'.out h64'.out
                  have hm0 : (0 : Int) ≤ (m : Int) := by omega
                  clear hml2 hsk
                  go_wp2_with fail
                  refine (kget_at (x := ⟨ws2, -1, false⟩) A4 n4 c4 (m : Int) EA'.out EG.out _ R).mono ?_
                  rintro e w6 ⟨rfl, hb⟩
                  clear o0 o1 o2
                  replace O := O.belowH hb
                  replace R := R.belowH hb
                  replace V := V.belowH hb
                  replace b := b.trans (hb.mono b.size)
                  clear hb
                  have Y := Box.new w6 (U sk).toArray 26
                  replace O := O.alloc (.cells (U sk).toArray 26)
                  replace R := R.alloc (.cells (U sk).toArray 26)
                  replace V := V.alloc (.cells (U sk).toArray 26)
                  replace b := b.alloc b.size (.cells (U sk).toArray 26)
                  go_wp2_with (first | ((with_reducible refine sec_new _ sk h64'.out ?hd ?hy ?_); (case hd => rfl); (case hy => rfl)))
                  generalize w6.alloc (.cells (U sk).toArray 26) = w7 at *
                  have L1 := fun q : Nat => sec_load (w7.drewN q) w6.heap.size 0 sk h64'.out (sec_box Y)
                  have L2 := fun q : Nat => sec_load (w7.drewN q) vb (m * 64) sk h64'.out (boxS_range V hl3.out HSK.out)
                  refine wp_region_quiet_lit (by kernel_rfl) (by kernel_rfl) ?_
                  repeat (go_big_quiet_step (fail))
                  refine quiet_load _ _ _ _ (fun w' hc => by obtain ⟨q, rfl⟩ := hc; exact L1 q) rfl rfl rfl ?_
                  simp only [Act.put, sA, sB, sC]
                  repeat (go_big_quiet_step (fail))
                  refine quiet_load _ _ _ _ (fun w' hc => by obtain ⟨q, rfl⟩ := hc; exact L2 q) rfl rfl rfl ?_
                  simp only [Act.put, sA, sB, sC]
                  repeat (go_big_quiet_step (fail))
                  refine wpQuiet_nil ?_
                  intro _ hw'
                  obtain ⟨nq, rfl⟩ := hw'
                  go_wp2
                  go_roundw
                  case rel => exact ⟨m + 1, by omega, by go_num, O, R, V, kdrewN b _⟩
                  case measure => simp [intOf]; omega
                · have hmm : ¬ (m : Int) < 4 := by omega
                  go_wp2
                  go_ret
                  exact ⟨by simp, b⟩
        · have hyy : y = ⟨ws.set k2 s, f - 64, false⟩ ∧ er = 0 := by
            have e := HY.out
            rw [K.put_yes HAK.out (Or.inr (by show 64 ≤ f; omega))] at e
            injection e with e1 e2
            refine ⟨?_, e2.symm⟩
            rw [← e1]
            show (⟨_, if f = -1 then -1 else f - 64, _⟩ : Dk) = _
            rw [if_neg (by omega)]
            rfl
          obtain ⟨rfl, rfl⟩ := hyy
          have HK2 : Hid (k2 < ws.length) := Lib.hid (by rw [HWS.out]; exact hk24)
          have e64 : IntKind.i64.wrap (f - 64) = f - 64 := IntWalk.i64_in _ (by omega)
          dsimp only at O R3
          have hk2i : (k2 : Int) < 4 := by omega
          have hk20 : (0 : Int) ≤ (k2 : Int) := by omega
          go_upto_region 34 with fail
          replace O := O.drew
          replace R3 := R3.drew
          replace X := X.drew
          replace V := V.drew
          replace b := b.drew
          refine wp_region_held_drew (S := (fun w' => w'.cell? ⟨xb2, 0, none⟩ = some (.slice A3 n3 c3) ∧ w'.cell? ⟨xb2, 1, none⟩ = some (.int .i64 (f - 64)) ∧ w'.cell? ⟨xb2, 2, none⟩ = some (.bool false) ∧ w'.rangeAt bw (ow + k * 65 + 1) (U s))) (by kernel_rfl) (by exact ⟨O.at 0 rfl, O.at 1 rfl, O.at 2 rfl, range_below HRG.out b hbw⟩) (fun hHeld0 => ?_)
          generalize wc.drew = wd at *
          refine tk 0 127 rfl hHeld0 ?_
          refine tk 1 128 rfl hHeld0 ?_
          refine tk 2 129 rfl hHeld0 ?_
          refine tk 3 130 rfl hHeld0 ?_
          refine tk 4 131 rfl hHeld0 ?_
          refine tk 5 132 rfl hHeld0 ?_ (hv := fun w' hSw => exec_sec bw (ow + k * 65 + 1) s HS.out hSw.2.2.2 rfl)
          refine tk 6 133 rfl hHeld0 ?_
          refine tk 7 134 rfl hHeld0 ?_
          refine tk 8 135 rfl hHeld0 ?_
          refine tk 9 136 rfl hHeld0 ?_
          refine wpAnyH_ready (rs := [10]) (by kernel_rfl) (by simp) (AllReadyH.cons (o := ⟨none, _, _, _, _, _⟩) rfl (fun K hK => ?_) AllReadyH.nil)
          rw [if_pos (by rfl)]
          refine wp_store_mid 26 (.tmp 136) (.tmp 132) rfl vb (k2 * 64) (U s).toArray rfl rfl (by rw [List.size_toArray, U_length, HS.out]; exact boxS_there V HWL.out HK2.out) (by rw [List.size_toArray, U_length, HS.out]; rfl) (all_oneCell_toArray (U_one s)) ?_
          show K _ (wd.setCells vb (k2 * 64) (U s))
          replace O := Box.apart (w := wd) (b' := vb) h3 (U s) (k2 * 64) _ O
          replace X := Box.apart (w := wd) (b' := vb) (show xb ≠ vb by omega) (U s) (k2 * 64) _ X
          replace V := boxS_store V HWL.out HS.out HK2.out
          replace R3 := KRd.cells (b := vb) HFR.out R3 (U s) (k2 * 64)
          replace b := below_setCells (b := vb) hwv (U s) (k2 * 64) _ b
          refine hK.out _ _ (by exact ⟨O.at 0 rfl, O.at 1 rfl, O.at 2 rfl, range_below HRG.out b hbw⟩) (fun hHeld1 => ?_)
          clear hK hHeld0 K
          try simp only [Act.put, sA, sB, sC]
          generalize wd.setCells vb (k2 * 64) (U s) = we at *
          refine tk 11 9 rfl hHeld1 ?_
          refine wpAnyH_ready (rs := [12]) (by kernel_rfl) (by simp) (AllReadyH.cons (o := ⟨none, _, _, _, _, _⟩) rfl (fun K hK => ?_) AllReadyH.nil)
          have x0 := X.at 0 rfl
          have x1 := X.at 1 rfl
          have x2 := X.at 2 rfl
          have xc := X.cold
          go_simp
          replace R3 := R3.box3 X (.slice A3 n3 c3) (.int .i64 (f - 64)) (.bool false)
          replace X := X.three (.slice A3 n3 c3) (.int .i64 (f - 64)) (.bool false)
          replace O := ((O.other (show xb2 ≠ xb by omega) (o := 0) (.slice A3 n3 c3)).other (show xb2 ≠ xb by omega) (o := 1) (.int .i64 (f - 64))).other (show xb2 ≠ xb by omega) (o := 2) (.bool false)
          replace V := ((V.other (show vb ≠ xb by omega) (o := 0) (.slice A3 n3 c3)).other (show vb ≠ xb by omega) (o := 1) (.int .i64 (f - 64))).other (show vb ≠ xb by omega) (o := 2) (.bool false)
          replace b := below_set (o := 2) (below_set (o := 1) (below_set (o := 0) b hwx (.slice A3 n3 c3)) hwx (.int .i64 (f - 64))) hwx (.bool false)
          clear x0 x1 x2 xc
          refine hK.out _ _ (by exact ⟨O.at 0 rfl, O.at 1 rfl, O.at 2 rfl, range_below HRG.out b hbw⟩) (fun hHeld2 => ?_)
          clear hK hHeld1 K
          try simp only [Act.put, sA, sB, sC]
          refine wpAnyH_done (by kernel_rfl) ?_ _
          clear hHeld2
          generalize ((we.setCell ⟨xb, 0, none⟩ (.slice A3 n3 c3)).setCell ⟨xb, 1, none⟩ (.int .i64 (f - 64))).setCell ⟨xb, 2, none⟩ (.bool false) = wg at *
          go_wp2
          go_roundw
          case rel => exact ⟨k + 1, f - 64, ws.set k2 s, A3, n3, c3, by omega, rfl, by go_num, by omega, by rw [List.length_set]; exact HWS.out, set_all HWL.out HS.out, X, R3, V, b⟩
          case measure => simp [intOf]; omega
    · go_wp2
      go_ret
      exact ⟨by simp, b⟩
end Go.Proofs.Ytijpmjedohjikaa
