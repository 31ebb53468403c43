/- KCode (merged). -/
import Derived.Test.YtipccalbhlhljaaJKC
namespace Go.Proofs.Ytipccalbhlhljaa
set_option linter.unusedVariables false
set_option linter.unusedSimpArgs false
open Go.RowKit
theorem kown_below {w w' : World} {base e size n : Nat} {v : Value} {xs : List Value} (h : w.ownsRow base e size v n xs) (hb : Below w.heap.size w w') : w'.ownsRow base e size v n xs := by
  refine ⟨h.1, ?_⟩
  rcases h.2 with h0 | ⟨g, cap, cur, hv, hbg, hg, rest⟩
  · exact .inl h0
  · exact .inr ⟨g, cap, cur, hv, hbg, (hb.block g (lt_of_block hg)).trans hg, rest⟩
/-- a disk of one's own in a result's cells -/
theorem disk_done {w0 w : World} {z base n c : Nat} {e : TypeId} {A : Option Addr} {l : List (List UInt8)} {f er : Int} {o : Bool} {p : Prop} (b : Below w0.heap.size w0 w) (hz : w0.heap.size ≤ z) (hb : z < base)
    (own : w.ownsRow base e 64 (.slice A n c) n (S l)) (hw : ∀ y ∈ l, y.length = 64) {x : Dk × Int} (E : x = (⟨l, f, o⟩, er)) :
    DiskN x.1 x.2 p w0 (.returned (.tuple #[.agg #[.slice A n c, .int .i64 f, .bool o], .int .i64 er])) (((w.setCell ⟨z, 0, none⟩ (.slice A n c)).setCell ⟨z, 1, none⟩ (.int .i64 f)).setCell ⟨z, 2, none⟩ (.bool o)) := by
  subst E
  refine ⟨⟨A, n, c, rfl, KRd.of_own (ownsRow_setCell_below (ownsRow_setCell_below (ownsRow_setCell_below own (by show z < _; omega) _) (by show z < _; omega) _) (by show z < _; omega) _) hw, fun _ bk ok hA => ?_⟩, below_set (below_set (below_set b hz _) hz _) hz _⟩
  have h9 : base ≤ bk := own_far own hA
  omega
set_option maxHeartbeats 4000000 in
set_option maxRecDepth 20000 in
theorem kput_any (u : Kv) (i : Int) (s : List UInt8) (hs : s.length = 64) (w : World) (h : KRd w u) (HNS : u.n ≤ 1000) (hf : u.x.fuse ≤ 9223372036854775807) :
    Calls Try.prog 42 #[kval u, .int .i64 i, .agg (U s).toArray] w (DiskN (K.put u.x i s).1 (K.put u.x i s).2 (K.asked u.x i = 0) w) := by
  have hw := h.2.1
  have hlen := h.len
  obtain ⟨⟨l, f, o⟩, A, n, c⟩ := u
  simp only at hlen HNS hf
  simp only [kval]
  have hU : (U s).length = 64 := by rw [U_length, hs]
  have X := ((Box.new w #[.slice A n c, .int .i64 f, .bool o] 34).alloc (.cells (U s).toArray 24)).alloc (.cells #[.slice none 0 0, .int .i64 0, .bool false] 34)
  have B := (Box.new (w.alloc (.cells #[.slice A n c, .int .i64 f, .bool o] 34)) (U s).toArray 24).alloc (.cells #[.slice none 0 0, .int .i64 0, .bool false] 34)
  have Z := Box.new ((w.alloc (.cells #[.slice A n c, .int .i64 f, .bool o] 34)).alloc (.cells (U s).toArray 24)) #[.slice none 0 0, .int .i64 0, .bool false] 34
  have b := (((Below.refl w.heap.size w).alloc (Nat.le_refl _) (.cells #[.slice A n c, .int .i64 f, .bool o] 34)).alloc (by simp) (.cells (U s).toArray 24)).alloc (by simp; omega) (.cells #[.slice none 0 0, .int .i64 0, .bool false] 34)
  rw [show (w.alloc (.cells #[.slice A n c, .int .i64 f, .bool o] 34)).heap.size = w.heap.size + 1 by simp] at B
  rw [show ((w.alloc (.cells #[.slice A n c, .int .i64 f, .bool o] 34)).alloc (.cells (U s).toArray 24)).heap.size = w.heap.size + 1 + 1 by simp] at Z
  have hs1 : (((w.alloc (.cells #[.slice A n c, .int .i64 f, .bool o] 34)).alloc (.cells (U s).toArray 24)).alloc (.cells #[.slice none 0 0, .int .i64 0, .bool false] 34)).heap.size = w.heap.size + 3 := by simp
  replace h := h.belowH b
  have x0 := X.at 0 rfl
  have x1 := X.at 1 rfl
  have x2 := X.at 2 rfl
  have HU := Lib.hid hU
  have HS := Lib.hid hs
  clear hU hs
  go_enter Try.func42, Try.ntmps42
  go_wp2_with fail
  generalize ((w.alloc (.cells #[.slice A n c, .int .i64 f, .bool o] 34)).alloc (.cells (U s).toArray 24)).alloc (.cells #[.slice none 0 0, .int .i64 0, .bool false] 34) = w1 at *
  refine (kown_any ⟨⟨l, f, o⟩, A, n, c⟩ w1 h (by show n * 64 ≤ _; omega)).mono ?_
  rintro _ w2 ⟨⟨A3, c3, rfl, hown⟩, b2⟩
  replace h := h.belowH b2
  replace X := X.belowH b2
  replace Z := Z.belowH b2
  replace B := B.belowH b2
  replace b := b.trans (b2.mono b.size)
  have hs2 := b2.size
  clear b2 x0 x1 x2
  (try dsimp only at hown)
  have hne : (Value.slice A3 n c3).ownBlock ≠ some w2.heap.size := fun e => by have := (hown.lt _ e).2; omega
  have Y := Box.new w2 #[.slice A3 n c3, .int .i64 f, .bool o] 34
  have hwh : 0 < n → ∃ g, A3 = some ⟨g, 0, none⟩ ∧ w1.heap.size ≤ g ∧ g < w2.heap.size := fun hn => own_where hown hn
  replace hown := hown.alloc (.cells #[.slice A3 n c3, .int .i64 f, .bool o] 34)
  replace h := h.alloc (.cells #[.slice A3 n c3, .int .i64 f, .bool o] 34)
  replace X := X.alloc (.cells #[.slice A3 n c3, .int .i64 f, .bool o] 34)
  replace Z := Z.alloc (.cells #[.slice A3 n c3, .int .i64 f, .bool o] 34)
  replace B := B.alloc (.cells #[.slice A3 n c3, .int .i64 f, .bool o] 34)
  replace b := b.alloc (by omega) (.cells #[.slice A3 n c3, .int .i64 f, .bool o] 34)
  have hs3 : (w2.alloc (.cells #[.slice A3 n c3, .int .i64 f, .bool o] 34)).heap.size = w2.heap.size + 1 := by simp
  have x0 := X.at 0 rfl
  have x1 := X.at 1 rfl
  have x2 := X.at 2 rfl
  go_wp2_with fail
  generalize w2.alloc (.cells #[.slice A3 n c3, .int .i64 f, .bool o] 34) = w3 at *
  refine (kreach_any ⟨⟨l, f, o⟩, A, n, c⟩ i w3 h).mono ?_
  rintro _ w4 ⟨rfl, b4⟩
  replace h := h.belowH b4
  replace X := X.belowH b4
  replace Z := Z.belowH b4
  replace B := B.belowH b4
  replace Y := Y.belowH b4
  replace hown := kown_below hown b4
  replace b := b.trans (b4.mono b.size)
  have hs4 := b4.size
  clear b4 x0 x1 x2
  generalize hyb : w2.heap.size = yb at *
  have hzb : w.heap.size + 1 + 1 < w1.heap.size := by omega
  have hyb2 : w1.heap.size ≤ yb := by omega
  clear hs1 hs2 hs3 hs4 hyb
  have y0 := Y.at 0 rfl
  have y1 := Y.at 1 rfl
  have y2 := Y.at 2 rfl
  have z0 := Z.at 0 rfl
  have z1 := Z.at 1 rfl
  have z2 := Z.at 2 rfl
  have zc := Z.cold
  have OWN := Lib.hid hown
  have HW := Lib.hid hw
  have HL := Lib.hid hlen
  have HWH := Lib.hid hwh
  clear hown hw hlen hwh
  by_cases ha : K.asked ⟨l, f, o⟩ i = 0
  · obtain ⟨r, hd, i0, i1⟩ := K.asked_right ha
    have hf1 : -1 ≤ f := r.2
    simp only at hd i1
    subst hd
    rw [ha]
    obtain ⟨k, rfl⟩ := Int.eq_ofNat_of_zero_le i0
    have hk : k < n := by have := HL.out; simp at i1; omega
    obtain ⟨g, rfl, hg1, hg2⟩ := HWH.out (show 0 < n by omega)
    have HK : Hid (k < l.length) := Lib.hid (by rw [HL.out]; exact hk)
    have HA := Lib.hid ha
    have hk0 : (0 : Int) ≤ (k : Int) := by omega
    have hk2 : (k : Int) < (n : Int) := by omega
    clear i0 i1 r ha hne HWH h z0 z1 z2 zc
    have HWL : Hid (∀ y ∈ l, y.length = 64) := Lib.hid HW.out
    have HT := Lib.hid (own_there OWN.out hk)
    have HB : Hid (w4.rangeAt (w.heap.size + 1) 0 (U s)) := Lib.hid (fun j v hv => by rw [Nat.zero_add]; exact B.at j (by rw [List.getElem?_toArray]; exact hv))
    have v1 := (Box.apart (w := w4) (b' := g) (by omega) (U s) (k * 64) _ X).at 1 rfl
    go_wp2_with (first | ((with_reducible refine sec_got _ (w.heap.size + 1) 0 s HS.out HB.out ?hx ?_); (case hx => rfl)) | ((with_reducible refine sec_put g (k * 64) s HS.out HT.out ?hx ?hy ?_); (case hx => (first | rfl | (simp; done))); (case hy => rfl)))
    have X5 := Box.apart (w := w4) (b' := g) (by omega) (U s) (k * 64) _ X
    have Y5 := Box.apart (w := w4) (b' := g) (by omega) (U s) (k * 64) _ Y
    have Z5 := Box.apart (w := w4) (b' := g) (by omega) (U s) (k * 64) _ Z
    have own5 := Lib.hid (own_sector OWN.out HWL.out HS.out HK.out)
    have b5 := below_setCells (b := g) (by omega) (U s) (k * 64) _ b
    clear OWN X Y Z B b y0 y1 y2 HT HB v1
    generalize w4.setCells g (k * 64) (U s) = w5 at *
    have hlt5 := Z5.lt
    have z0 := Z5.at 0 rfl
    have z1 := Z5.at 1 rfl
    have z2 := Z5.at 2 rfl
    have zc := Z5.cold
    have y0 := Y5.at 0 rfl
    have y1 := Y5.at 1 rfl
    have y2 := Y5.at 2 rfl
    have yc := Y5.cold
    have x1 := X5.at 1 rfl
    by_cases hb : f ≠ -1 ∧ f < 64
    · obtain ⟨j, rfl⟩ := Int.eq_ofNat_of_zero_le (show 0 ≤ f by omega)
      have hj : j < 64 := by omega
      have E : Hid (K.put ⟨l, (j : Int), false⟩ (k : Int) s = (⟨l.set k (K.torn s j), -1, true⟩, 9)) := Lib.hid (by rw [K.put_torn HA.out (k := j) rfl hj]; rfl)
      refine (kburns_any (j : Int) (decide_eq_true hb) w5).mono ?_
      rintro _ w6 ⟨rfl, rfl⟩
      clear hb
      have SL := fun W => run_tail W g k j hj
      have HWS : Hid (∀ y ∈ l.set k s, y.length = 64) := Lib.hid (set_all HWL.out HS.out)
      have HKS : Hid ((l.set k s)[k]? = some s) := Lib.hid (List.getElem?_set_self HK.out)
      have TH := own_there own5.out hk
      have CL := fun ty => Lib.run_clear_slice (P := Try.prog) w5.drew 54 5 ty (.int .u8 0) Try.underlying54 (fun _ => by kernel_rfl) rfl rfl g (k * 64 + j) (64 - j) (64 - j) (by omega)
        (fun m hm => by have := (TH (j + m) (by omega)).1; rw [← Nat.add_assoc] at this; exact this) (fun m hm => by have := (TH (j + m) (by omega)).2; rw [← Nat.add_assoc] at this; exact this)
      have hj0 : (0 : Int) ≤ (j : Int) := by omega
      clear TH
      go_wp2_with fail
      go_region
      have Z6 := Box.apart (w := w5.drew) (b' := g) (by omega) (List.replicate (64 - j) (.int .u8 0)) (k * 64 + j) _ Z5.drew
      have Y6 := Box.apart (w := w5.drew) (b' := g) (by omega) (List.replicate (64 - j) (.int .u8 0)) (k * 64 + j) _ Y5.drew
      have own6 := own_tail (w := w5.drew) own5.out HWS.out HKS.out hj
      rw [K.set_set] at own6
      have b6 := below_setCells (b := g) (by omega) (List.replicate (64 - j) (.int .u8 0)) (k * 64 + j) _ b5.drew
      clear CL SL X5 Y5 Z5 own5 b5 x1 y0 y1 y2 yc z0 z1 z2 zc hlt5
      generalize w5.drew.setCells g (k * 64 + j) (List.replicate (64 - j) (.int .u8 0)) = w6 at *
      have hlt6 := Z6.lt
      have z0 := Z6.at 0 rfl
      have z1 := Z6.at 1 rfl
      have z2 := Z6.at 2 rfl
      have zc := Z6.cold
      have y0 := Y6.at 0 rfl
      have y1 := Y6.at 1 rfl
      have y2 := Y6.at 2 rfl
      have yc := Y6.cold
      have OWN6 := Lib.hid own6
      clear own6
      go_wp2
      have Z2 := ((((Z6.other (b' := yb) (o := 1) (by omega) (.int .i64 (-1))).other (b' := yb) (o := 2) (by omega) (.bool true)).set 0 (.slice (some ⟨g, 0, none⟩) n c3)).set 1 (.int .i64 (-1))).set 2 (.bool true)
      have q0 := Z2.at 0 rfl
      have q1 := Z2.at 1 rfl
      have q2 := Z2.at 2 rfl
      refine bodyPost_ret (v := .tuple #[.agg #[.slice (some ⟨g, 0, none⟩) n c3, .int .i64 (-1), .bool true], .int .i64 9]) (by simp [results, Try.results42, go_sem, q0, q1, q2]; try rfl) rfl (disk_done (below_set (o := 2) (below_set (o := 1) b6 (show w.heap.size ≤ yb by omega) (.int .i64 (-1))) (show w.heap.size ≤ yb by omega) (.bool true)) (show w.heap.size ≤ w.heap.size + 1 + 1 by omega) hzb (ownsRow_setCell_other (ownsRow_setCell_other OWN6.out (a := ⟨yb, 1, none⟩) (by simp [Value.ownBlock]; omega) (.int .i64 (-1))) (a := ⟨yb, 2, none⟩) (by simp [Value.ownBlock]; omega) (.bool true)) (set_all HWL.out (K.torn_len HS.out (by omega))) E.out)
    · refine (kburns_any f (decide_eq_false hb) w5).mono ?_
      rintro _ w6 ⟨rfl, rfl⟩
      by_cases hm : f = -1
      · subst hm
        have E : Hid (K.put ⟨l, -1, false⟩ (k : Int) s = (⟨l.set k s, -1, false⟩, 0)) := Lib.hid (by rw [K.put_yes HA.out (Or.inl rfl)]; rfl)
        clear hb
        go_wp2
        have Z2 := ((Z5.set 0 (.slice (some ⟨g, 0, none⟩) n c3)).set 1 (.int .i64 (-1))).set 2 (.bool false)
        have q0 := Z2.at 0 rfl
        have q1 := Z2.at 1 rfl
        have q2 := Z2.at 2 rfl
        refine bodyPost_ret (v := .tuple #[.agg #[.slice (some ⟨g, 0, none⟩) n c3, .int .i64 (-1), .bool false], .int .i64 0]) (by simp [results, Try.results42, go_sem, q0, q1, q2]; try rfl) rfl (disk_done b5 (show w.heap.size ≤ w.heap.size + 1 + 1 by omega) hzb own5.out (set_all HWL.out HS.out) E.out)
      · have E : Hid (K.put ⟨l, f, false⟩ (k : Int) s = (⟨l.set k s, f - 64, false⟩, 0)) := Lib.hid (by rw [K.put_yes HA.out (Or.inr (by show 64 ≤ f; omega))]; show ((⟨l.set k s, if f = -1 then -1 else f - 64, false⟩ : Dk), (0 : Int)) = _; rw [if_neg hm])
        have t2 : (f != -1) = true := bne_iff_ne.2 hm
        have t3 : wrap64 (f - 64) = f - 64 := wrap64_fit (by omega) (by omega)
        clear hb hm
        go_wp2
        have Z2 := (((Z5.other (b' := yb) (o := 1) (by omega) (.int .i64 (f - 64))).set 0 (.slice (some ⟨g, 0, none⟩) n c3)).set 1 (.int .i64 (f - 64))).set 2 (.bool false)
        have q0 := Z2.at 0 rfl
        have q1 := Z2.at 1 rfl
        have q2 := Z2.at 2 rfl
        refine bodyPost_ret (v := .tuple #[.agg #[.slice (some ⟨g, 0, none⟩) n c3, .int .i64 (f - 64), .bool false], .int .i64 0]) (by simp [results, Try.results42, go_sem, q0, q1, q2]; try rfl) rfl (disk_done (below_set (o := 1) b5 (show w.heap.size ≤ yb by omega) (.int .i64 (f - 64))) (show w.heap.size ≤ w.heap.size + 1 + 1 by omega) hzb (ownsRow_setCell_other own5.out (a := ⟨yb, 1, none⟩) (by simp [Value.ownBlock]; omega) (.int .i64 (f - 64))) (set_all HWL.out HS.out) E.out)
  · have t1 : (K.asked ⟨l, f, o⟩ i != 0) = true := bne_iff_ne.2 ha
    have E := Lib.hid (K.put_no (b := s) ha)
    clear ha
    go_wp2
    have Z2 := ((Z.set 0 (.slice A3 n c3)).set 1 (.int .i64 f)).set 2 (.bool o)
    have q0 := Z2.at 0 rfl
    have q1 := Z2.at 1 rfl
    have q2 := Z2.at 2 rfl
    refine bodyPost_ret (v := .tuple #[.agg #[.slice A3 n c3, .int .i64 f, .bool o], .int .i64 (K.asked ⟨l, f, o⟩ i)]) (by simp [results, Try.results42, go_sem, q0, q1, q2]; try rfl) rfl (disk_done b (show w.heap.size ≤ w.heap.size + 1 + 1 by omega) hzb OWN.out (HW.out) E.out)
end Go.Proofs.Ytipccalbhlhljaa

