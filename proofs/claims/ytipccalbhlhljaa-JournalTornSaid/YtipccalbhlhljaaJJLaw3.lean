/- JLaw3 (merged). -/
import Derived.Deep.DeepCutAuto
import Derived.Test.YtipccalbhlhljaaJJA
import Derived.Test.YtipccalbhlhljaaJJRows
namespace Go.Proofs.Ytipccalbhlhljaa
set_option linter.unusedVariables false
set_option linter.unusedSimpArgs false
open Go.RowKit
theorem set_same {l : List UInt8} {k : Nat} {x : UInt8} (h : l[k]? = some x) : l.set k x = l := by
  refine List.ext_getElem? fun j => ?_
  by_cases hj : j = k
  · subst hj
    rw [h, List.getElem?_set_self (List.getElem?_eq_some_iff.1 h).1]
  · rw [List.getElem?_set_ne (by omega)]
theorem set_other {l : List UInt8} {k : Nat} {x y : UInt8} (h : l[k]? = some x) (hne : y ≠ x) : l.set k y ≠ l := fun e => by
  have h1 := List.getElem?_set_self (a := y) (List.getElem?_eq_some_iff.1 h).1
  rw [e, h] at h1
  injection h1 with h1
  exact hne h1.symm
set_option maxHeartbeats 8000000 in
set_option maxRecDepth 100000 in
theorem law_JournalTorn (x : Rc) (a1 a2 : Int) (W : World) (w0 : RcIn x) (w1 : (Lit.int .u8 a1).wf = true) (w2 : (Lit.int .u8 a2).wf = true) :
    Calls Try.prog 7 #[.agg #[.int .i64 x.seq, .int .i64 x.gen, .string (strB x.note)], .int .u8 a1, .int .u8 a2] W fun e w' => e = .returned (.bool true) ∧ Below W.heap.size W w' := by
  have c1 := wf_bounds_u8 w1
  have c2 := wf_bounds_u8 w2
  clear w1 w2
  have hsz : (strB x.note).size = x.note.length := J.strB_size x.note
  have HSZ := Lib.hid hsz
  have hnt : (strB x.note).size ≤ 9223372036854775807 := by have := w0.2.2; omega
  clear hsz
  obtain ⟨tb, htb⟩ : ∃ t : UInt8, a2 = (t.toNat : Int) := ⟨UInt8.ofNat a2.toNat, by
    have h1 : (UInt8.ofNat a2.toNat).toNat = a2.toNat % 256 := by simp
    rw [h1]; omega⟩
  subst htb
  obtain ⟨k, hk⟩ : ∃ k : Nat, a1.tmod 64 = (k : Int) := Int.eq_ofNat_of_zero_le (Int.tmod_nonneg _ c1.1)
  have hk64 : k < 64 := by have := Int.tmod_lt_of_pos a1 (show (0 : Int) < 64 by omega); omega
  have wa : IntKind.i64.wrap a1 = a1 := IntWalk.i64_in _ (by omega)
  have wk : IntKind.i64.wrap (k : Int) = (k : Int) := IntWalk.i64_in _ (by omega)
  have hk0 : (0 : Int) ≤ (k : Int) := by omega
  obtain ⟨⟨lt, le⟩, hl⟩ : ∃ z, J.lay x = z := ⟨_, rfl⟩
  have HLY := Lib.hid hl
  have hlt : Hid (lt.length = 64) := Lib.hid (by have := J.lay_len x; rw [hl] at this; exact this)
  clear hl
  have P := Box.new (W) #[.int .i64 x.seq, .int .i64 x.gen, .string (strB x.note)] 23
  have b := (Below.refl W.heap.size W).alloc (Nat.le_refl _) (.cells #[.int .i64 x.seq, .int .i64 x.gen, .string (strB x.note)] 23)
  go_enter Try.func7, Try.ntmps7
  go_wp2_with fail
  generalize (W).alloc (.cells #[.int .i64 x.seq, .int .i64 x.gen, .string (strB x.note)] 23) = w1' at *
  refine (jalive_any _).mono ?_
  rintro e v1 ⟨rfl, hb⟩
  replace P := P.belowH hb
  replace b := b.trans (hb.mono b.size)
  clear hb
  (try dsimp only)
  have p0 := P.at 0 rfl
  have p1 := P.at 1 rfl
  have p2 := P.at 2 rfl
  go_wp2_with fail
  refine (jlay_at HLY.out w0 _).mono ?_
  rintro e v2 ⟨rfl, hb⟩
  clear p0 p1 p2
  replace P := P.belowH hb
  replace b := b.trans (hb.mono b.size)
  clear hb
  (try dsimp only)
  have C := Box.new v2 (U lt).toArray 24
  replace P := P.alloc (.cells (U lt).toArray 24)
  replace b := b.alloc b.size (.cells (U lt).toArray 24)
  have p0 := P.at 0 rfl
  have p1 := P.at 1 rfl
  have p2 := P.at 2 rfl
  rcases (show (J.may x ∧ lt = J.sec x ∧ le = 0) ∨ (¬ J.may x ∧ le = 1) from by
    by_cases hm : J.may x
    · left; have h := HLY.out; rw [J.lay_yes hm] at h; injection h with h1 h2; exact ⟨hm, h1.symm, h2.symm⟩
    · right; have h := HLY.out; rw [J.lay_no hm] at h; injection h with h1 h2; exact ⟨hm, h2.symm⟩) with ⟨hm, e1, e2⟩ | ⟨hm, e2⟩
  rotate_left
  · subst e2
    clear hm
    go_wp2_with (first | ((with_reducible refine sec_new _ lt hlt.out ?hd ?hy ?_); (case hd => rfl); (case hy => rfl)) | ((with_reducible refine sec_take _ (v2.heap.size) 0 lt hlt.out (sec_box C) ?hw ?hx ?_); (case hw => rfl); (case hx => rfl)))
    go_ret
    exact ⟨rfl, b⟩
  subst e2
  have hn30 : ¬ 30 < (strB x.note).size := by have h1 := hm.2.2.2.2; have h2 := HSZ.out; omega
  have HM := Lib.hid hm
  have HE := Lib.hid e1
  obtain ⟨bk, hbk⟩ : ∃ y, lt[k]? = some y := ⟨_, List.getElem?_eq_getElem (by rw [hlt.out]; exact hk64)⟩
  have HBK := Lib.hid hbk
  clear hm e1 hbk
  go_upto_region 8 with (first | ((with_reducible refine sec_new _ lt hlt.out ?hd ?hy ?_); (case hd => rfl); (case hy => rfl)) | ((with_reducible refine sec_take _ (v2.heap.size) 0 lt hlt.out (sec_box C) ?hw ?hx ?_); (case hw => rfl); (case hx => rfl)))
  generalize v2.alloc (.cells (U lt).toArray 24) = u1 at *
  clear p0 p1 p2
  have hPl := P.lt
  have hCl := C.lt
  have D := Box.new u1 (U lt).toArray 24
  replace P := P.alloc (.cells (U lt).toArray 24)
  replace C := C.alloc (.cells (U lt).toArray 24)
  replace b := b.alloc b.size (.cells (U lt).toArray 24)
  generalize u1.alloc (.cells (U lt).toArray 24) = u2 at *
  generalize u1.heap.size = db at *
  generalize v2.heap.size = cb at *
  go_wp2_with fail
  go_loopw [11] (fun iv wr => ∃ (i : Nat) (p : List UInt8), k ≤ i ∧ i ≤ 64 ∧ iv = .int .i64 (i : Int) ∧ p.length = 64 ∧ (i = 64 → p[63]? = some 0) ∧ Box wr db 24 (U p).toArray ∧ Box wr W.heap.size 23 #[.int .i64 x.seq, .int .i64 x.gen, .string (strB x.note)] ∧ Box wr cb 24 (U lt).toArray ∧ Below W.heap.size W wr) (fun iv _ => 64 - (intOf iv).toNat)
  case atStart => exact ⟨k, lt, Nat.le_refl _, by omega, rfl, hlt.out, fun h => absurd h (by omega), D, P, C, b⟩
  case round =>
    clear D P C b
    obtain ⟨i, p, hki, hi, rfl, hp, hpz, D, P, C, b⟩ := hrel
    have HP := Lib.hid hp
    have HPZ := Lib.hid hpz
    clear hpz
    by_cases hlt' : i < 64
    · have hi0 : (0 : Int) ≤ (i : Int) := by omega
      obtain ⟨tv, tx⟩ : ∃ tv, wr.cell? ⟨db, i, none⟩ = some tv := ⟨_, D.at i (by rw [List.getElem?_toArray]; exact List.getElem?_eq_getElem (show i < (U p).length by rw [U_length, hp]; exact hlt'))⟩
      have dc := D.cold
      have D2 := boxU_byte D i 0
      have e0 : (((0 : UInt8).toNat : Nat) : Int) = 0 := rfl
      rw [e0] at D2
      have P2 := P.other (show W.heap.size ≠ db by omega) (o := i) (.int .u8 0)
      have C2 := C.other (show cb ≠ db by omega) (o := i) (.int .u8 0)
      have b2 := below_set (o := i) b (show W.heap.size ≤ db by omega) (.int .u8 0)
      have hz2 : i + 1 = 64 → (p.set i 0)[63]? = some 0 := fun h => by
        have e : i = 63 := by omega
        rw [e]
        exact List.getElem?_set_self (by rw [HP.out]; omega)
      clear D P C b e0 hp
      go_wp2
      go_roundw
      case rel => exact ⟨i + 1, p.set i 0, by omega, by omega, by go_num, by rw [List.length_set]; exact HP.out, hz2, D2, P2, C2, b2⟩
      case measure => simp [intOf]; omega
    · have hii : ¬ (i : Int) < 64 := by omega
      have HFP : Hid (J.find p = (J.none, 10)) := Lib.hid (J.find_bad (by rw [HPZ.out (by omega)]; decide))
      clear hp hPl
      have p0 := P.at 0 rfl
      have p1 := P.at 1 rfl
      have p2 := P.at 2 rfl
      go_wp2_with (first | ((with_reducible refine sec_take _ (cb) 0 lt hlt.out (sec_box C) ?hw ?hx ?_); (case hw => rfl); (case hx => rfl)) | ((with_reducible refine sec_take _ (db) 0 p HP.out (sec_box D) ?hw ?hx ?_); (case hw => rfl); (case hx => rfl)))
      refine (jfind_at HFP.out HP.out _).mono ?_
      rintro e v3 ⟨rfl, hb⟩
      clear p0 p1 p2
      replace P := P.belowH hb
      replace C := C.belowH hb
      replace D := D.belowH hb
      replace b := b.trans (hb.mono b.size)
      clear hb
      (try dsimp only)
      simp only [rv]
      have Y := Box.new v3 #[.int .i64 J.none.seq, .int .i64 J.none.gen, .string (strB J.none.note)] 23
      replace P := P.alloc (.cells #[.int .i64 J.none.seq, .int .i64 J.none.gen, .string (strB J.none.note)] 23)
      replace C := C.alloc (.cells #[.int .i64 J.none.seq, .int .i64 J.none.gen, .string (strB J.none.note)] 23)
      replace D := D.alloc (.cells #[.int .i64 J.none.seq, .int .i64 J.none.gen, .string (strB J.none.note)] 23)
      replace b := b.alloc b.size (.cells #[.int .i64 J.none.seq, .int .i64 J.none.gen, .string (strB J.none.note)] 23)
      have p0 := P.at 0 rfl
      have p1 := P.at 1 rfl
      have p2 := P.at 2 rfl
      have y0 := Y.at 0 rfl
      have y1 := Y.at 1 rfl
      have y2 := Y.at 2 rfl
      go_upto_region 14 with (first | ((with_reducible refine sec_new _ lt hlt.out ?hd ?hy ?_); (case hd => rfl); (case hy => rfl)) | ((with_reducible refine sec_take _ cb 0 lt hlt.out (sec_box C) ?hw ?hx ?_); (case hw => rfl); (case hx => rfl)))
      generalize v3.alloc (.cells #[.int .i64 J.none.seq, .int .i64 J.none.gen, .string (strB J.none.note)] 23) = u3 at *
      clear p0 p1 p2 y0 y1 y2
      have hPe := P.lt
      have hCe := C.lt
      have hYe := Y.lt
      have E := Box.new u3 (U lt).toArray 24
      replace P := P.alloc (.cells (U lt).toArray 24)
      replace C := C.alloc (.cells (U lt).toArray 24)
      replace Y := Y.alloc (.cells (U lt).toArray 24)
      replace b := b.alloc b.size (.cells (U lt).toArray 24)
      generalize u3.alloc (.cells (U lt).toArray 24) = u4 at *
      generalize u3.heap.size = eb at *
      clear D
      obtain ⟨tv, tx⟩ : ∃ tv, u4.cell? ⟨eb, k, none⟩ = some tv := ⟨_, E.at k (by rw [List.getElem?_toArray]; exact List.getElem?_eq_getElem (show k < (U lt).length by rw [U_length, hlt.out]; exact hk64))⟩
      have ec := E.cold
      have E2 := boxU_byte E k tb
      have P2 := P.other (show W.heap.size ≠ eb by omega) (o := k) (.int .u8 (tb.toNat : Int))
      have C2 := C.other (show cb ≠ eb by omega) (o := k) (.int .u8 (tb.toNat : Int))
      have Y2 := Y.other (show v3.heap.size ≠ eb by omega) (o := k) (.int .u8 (tb.toNat : Int))
      have b2 := below_set (o := k) b (show W.heap.size ≤ eb by omega) (.int .u8 (tb.toNat : Int))
      have hel : Hid ((lt.set k tb).length = 64) := Lib.hid (by rw [List.length_set]; exact hlt.out)
      obtain ⟨⟨y, ge⟩, hy⟩ : ∃ z, J.find (lt.set k tb) = z := ⟨_, rfl⟩
      have HFY := Lib.hid hy
      have cc : ∃ cv, u4.cell? ⟨cb, k, none⟩ = some cv := ⟨_, C.at k (by rw [List.getElem?_toArray, U_get, HBK.out]; rfl)⟩
      clear hy E P C Y b cc
      go_wp2_with (first | ((with_reducible refine sec_take _ eb 0 (lt.set k tb) hel.out (sec_box E2) ?hw ?hx ?_); (case hw => rfl); (case hx => rfl)))
      generalize u4.setCell ⟨eb, k, none⟩ (.int .u8 (tb.toNat : Int)) = u5 at *
      clear tx ec
      refine (jfind_at HFY.out hel.out _).mono ?_
      rintro e w9 ⟨rfl, hb⟩
      simp only [rv]
      have P := (P2.belowH hb).alloc (.cells #[.int .i64 y.seq, .int .i64 y.gen, .string (strB y.note)] 23)
      have C := (C2.belowH hb).alloc (.cells #[.int .i64 y.seq, .int .i64 y.gen, .string (strB y.note)] 23)
      have b := b2.trans (hb.mono b2.size)
      clear hb P2 C2 Y2 E2 b2
      have G := Box.new w9 #[.int .i64 y.seq, .int .i64 y.gen, .string (strB y.note)] 23
      replace b := b.alloc b.size (.cells #[.int .i64 y.seq, .int .i64 y.gen, .string (strB y.note)] 23)
      have g0 := G.at 0 rfl
      have g1 := G.at 1 rfl
      have g2 := G.at 2 rfl
      have p0 := P.at 0 rfl
      have p1 := P.at 1 rfl
      have p2 := P.at 2 rfl
      have ck : (w9.alloc (.cells #[.int .i64 y.seq, .int .i64 y.gen, .string (strB y.note)] 23)).cell? ⟨cb, k, none⟩ = some (.int .u8 (bk.toNat : Int)) := C.at k (by rw [List.getElem?_toArray, U_get, HBK.out]; rfl)
      have hgd := guard_rc
      by_cases ht : tb = bk
      · subst ht
        have hfx : y = x ∧ ge = 0 := by
          have h := HFY.out
          rw [set_same HBK.out, HE.out, J.find_sec HM.out] at h
          injection h with h1 h2
          exact ⟨h1.symm, h2.symm⟩
        obtain ⟨rfl, rfl⟩ := hfx
        have qx := fun w => (eq_rc y y w).trans (by rw [rcB_self])
        go_wp2
        go_ret
        exact ⟨ret_bool (by simp), b⟩
      · have t1 : ((tb.toNat : Int) == (bk.toNat : Int)) = false := beq_eq_false_iff_ne.2 (fun h => ht (UInt8.toNat_inj.1 (by omega)))
        have t2 : ¬ tb.toNat = bk.toNat := fun h => ht (UInt8.toNat_inj.1 h)
        rcases J.find_or (lt.set k tb) with h | ⟨z, hz, hzs, h⟩
        · rw [HFY.out] at h
          injection h with h1 h2
          subst h2
          clear h1
          go_wp2
          go_ret
          exact ⟨ret_bool (by simp), b⟩
        · rw [HFY.out] at h
          injection h with h1 h2
          subst h2
          subst h1
          have hne : rcB y x = false := decide_eq_false (fun e => by
            subst e
            exact set_other HBK.out ht (hzs.symm.trans HE.out.symm))
          have qx := fun w => (eq_rc y x w).trans (by rw [hne])
          clear hzs hne
          go_wp2
          go_ret
          exact ⟨ret_bool (by simp), b⟩
end Go.Proofs.Ytipccalbhlhljaa

