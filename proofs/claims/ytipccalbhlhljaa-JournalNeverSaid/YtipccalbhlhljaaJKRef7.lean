/- KRef7 (merged). -/
import Derived.Test.YtipccalbhlhljaaJKMem
import Derived.Test.YtipccalbhlhljaaJKRefB
namespace Go.Proofs.Ytipccalbhlhljaa
set_option linter.unusedVariables false
set_option linter.unusedSimpArgs false
open Go.RowKit
theorem wrap64_fit {z : Int} (h1 : -9223372036854775808 ≤ z) (h2 : z ≤ 9223372036854775807) : wrap64 z = z := by unfold wrap64; omega
/-- what is left of the fuse behind j bytes -/
def left (f : Int) (j : Nat) : Int := if f = -1 then -1 else f - j
theorem sec_put {ops : Array Oper} {rest : List Oper} {T : TypeId} {pos : String} {af : Array Edge} {x y : Operand} {a : Act} {w : World} {Q : Exit → Act → World → Prop} (b o : Nat) (s : List UInt8) (hs : s.length = 64) (ht : w.there b o 64)
    (hx : a.eval x = .pointer (some ⟨b, o, none⟩)) (hy : a.eval y = .agg (U s).toArray)
    (h : wpList Try.prog ops Q rest (a.put none undef) (w.setCells b o (U s))) : wpList Try.prog ops Q (⟨none, .store 24 x y, T, pos, af, none⟩ :: rest) a w :=
  sec_store b o s hs ht rfl x y rfl hx _ hy rfl h
theorem Box.apart {w : World} {b b' : Nat} {T : TypeId} {cs : Array Value} (hne : b ≠ b') : ∀ (vs : List Value) (o : Nat) (w : World), Box w b T cs → Box (w.setCells b' o vs) b T cs
  | [], _, _, h => h
  | v :: vs, o, w, h => Box.apart (w := w) hne vs (o + 1) _ (h.other hne v)
set_option maxHeartbeats 2000000 in
set_option maxRecDepth 20000 in
theorem rkput_any (u : Kv) (i : Int) (s : List UInt8) (hs : s.length = 64) (w : World) (h : KRd w u) (hn : u.n ≤ 1000) (hf : u.x.fuse ≤ 9223372036854775807) :
    Calls Try.prog 44 #[kval u, .int .i64 i, .agg (U s).toArray] w (DiskN (K.put u.x i s).1 (K.put u.x i s).2 (K.asked u.x i = 0) w) := by
  have hlen := h.len
  have hw := h.2.1
  obtain ⟨⟨l, f, o⟩, A, n, c⟩ := u
  simp only at hlen hn hf
  simp only [kval]
  have hU : (U s).length = 64 := by rw [U_length, hs]
  have X := ((Box.new w #[.slice A n c, .int .i64 f, .bool o] 34).alloc (.cells (U s).toArray 24)).alloc (.cells #[.slice none 0 0, .int .i64 0, .bool false] 34)
  have B := (Box.new (w.alloc (.cells #[.slice A n c, .int .i64 f, .bool o] 34)) (U s).toArray 24).alloc (.cells #[.slice none 0 0, .int .i64 0, .bool false] 34)
  have Z := Box.new ((w.alloc (.cells #[.slice A n c, .int .i64 f, .bool o] 34)).alloc (.cells (U s).toArray 24)) #[.slice none 0 0, .int .i64 0, .bool false] 34
  have b := (((Below.refl w.heap.size w).alloc (Nat.le_refl _) (.cells #[.slice A n c, .int .i64 f, .bool o] 34)).alloc (by simp) (.cells (U s).toArray 24)).alloc (by simp; omega) (.cells #[.slice none 0 0, .int .i64 0, .bool false] 34)
  rw [show (w.alloc (.cells #[.slice A n c, .int .i64 f, .bool o] 34)).heap.size = w.heap.size + 1 by simp] at B
  rw [show ((w.alloc (.cells #[.slice A n c, .int .i64 f, .bool o] 34)).alloc (.cells (U s).toArray 24)).heap.size = w.heap.size + 1 + 1 by simp] at Z
  have h0 := h
  replace h := h.belowH b
  go_enter Try.func44, Try.ntmps44
  go_wp2_with fail
  refine (rkasked_any ⟨⟨l, f, o⟩, A, n, c⟩ i _ h).mono ?_
  rintro _ w2 ⟨rfl, b2⟩
  replace h := h.belowH b2
  replace X := X.belowH b2
  replace B := B.belowH b2
  replace Z := Z.belowH b2
  replace b := b.trans (b2.mono b.size)
  have hs2 : w.heap.size + 2 < w2.heap.size := Z.lt
  clear b2
  have x0 := X.at 0 rfl
  have x1 := X.at 1 rfl
  have x2 := X.at 2 rfl
  have z0 := Z.at 0 rfl
  have z1 := Z.at 1 rfl
  have z2 := Z.at 2 rfl
  have zc := Z.cold
  have H := Lib.hid h
  have HW := Lib.hid hw
  have HL := Lib.hid hlen
  have HS := Lib.hid hs
  have HU := Lib.hid hU
  clear h hw hlen hs hU
  by_cases ha : K.asked ⟨l, f, o⟩ i = 0
  · obtain ⟨r, hd, i0, i1⟩ := K.asked_right ha
    have hf1 : -1 ≤ f := r.2
    simp only at hd i1
    subst hd
    rw [ha]
    obtain ⟨k, rfl⟩ := Int.eq_ofNat_of_zero_le i0
    have hk : k < n := by have := HL.out; simp at i1; omega
    have HK : Hid (k < l.length) := Lib.hid (by rw [HL.out]; exact hk)
    have HA := Lib.hid ha
    have hk0 : (0 : Int) ≤ (k : Int) := by omega
    have hk2 : (k : Int) < (n : Int) := by omega
    clear i0 i1 r ha
    have HWL : Hid (∀ y ∈ l, y.length = 64) := Lib.hid HW.out
    go_wp2_with fail
    refine (rkcopy_any ⟨⟨l, f, false⟩, A, n, c⟩ _ H.out hn).mono ?_
    rintro e w3 ⟨⟨A3, c3, rfl, hown⟩, b3⟩
    obtain ⟨g, rfl, hg1, hg2⟩ := own_where hown (show 0 < n by omega)
    replace B := B.belowH b3
    replace Z := Z.belowH b3
    replace b := b.trans (b3.mono b.size)
    have hs3 := b3.size
    clear b3 H x0 x1 x2 z0 z1 z2 zc X h0
    dsimp only at hown
    have Y := Box.new w3 #[.slice (some ⟨g, 0, none⟩) n c3, .int .i64 f, .bool false] 34
    replace B := B.alloc (.cells #[.slice (some ⟨g, 0, none⟩) n c3, .int .i64 f, .bool false] 34)
    replace Z := Z.alloc (.cells #[.slice (some ⟨g, 0, none⟩) n c3, .int .i64 f, .bool false] 34)
    replace b := b.alloc (by omega) (.cells #[.slice (some ⟨g, 0, none⟩) n c3, .int .i64 f, .bool false] 34)
    replace hown := hown.alloc (.cells #[.slice (some ⟨g, 0, none⟩) n c3, .int .i64 f, .bool false] 34)
    have HT := Lib.hid (own_there hown hk)
    have OWN := Lib.hid hown
    have y0 := Y.at 0 rfl
    clear hown
    go_wp2_with (first | with_reducible refine sec_zero _ ?_ | ((with_reducible refine sec_put g (k * 64) K.zero zero_len HT.out ?hx ?hy ?_); (case hx => (first | rfl | (simp; done))); (case hy => rfl)))
    have hs4 : w3.heap.size < (w3.alloc (.cells #[.slice (some ⟨g, 0, none⟩) n c3, .int .i64 f, .bool false] 34)).heap.size := by simp
    generalize w3.alloc (.cells #[.slice (some ⟨g, 0, none⟩) n c3, .int .i64 f, .bool false] 34) = w4 at *
    replace Y := Box.apart (w := w4) (b' := g) (by omega) (U K.zero) (k * 64) _ Y
    replace B := Box.apart (w := w4) (b' := g) (by omega) (U K.zero) (k * 64) _ B
    replace Z := Box.apart (w := w4) (b' := g) (by omega) (U K.zero) (k * 64) _ Z
    have own2 := own_sector OWN.out HWL.out zero_len HK.out
    replace b := below_setCells (b := g) (by omega) (U K.zero) (k * 64) _ b
    clear OWN HT y0 hs4
    generalize hyb : w3.heap.size = yb at *
    have HYB := Lib.hid hyb
    have hgy : g < yb := by omega
    clear hyb hs3
    generalize w4.setCells g (k * 64) (U K.zero) = w5 at *
    rw [← K.torn_none s] at own2
    have Y' : Box w5 yb 34 #[.slice (some ⟨g, 0, none⟩) n c3, .int .i64 (left f 0), .bool false] := by
      have e : left f 0 = f := by unfold left; split <;> simp_all
      rw [e]; exact Y
    go_loopw [10] (fun v wr => ∃ j : Nat, j ≤ 64 ∧ v = .int .i64 (j : Int) ∧ (f = -1 ∨ (j : Int) ≤ f) ∧ Box wr yb 34 #[.slice (some ⟨g, 0, none⟩) n c3, .int .i64 (left f j), .bool false] ∧ wr.ownsRow w2.heap.size 24 64 (.slice (some ⟨g, 0, none⟩) n c3) n (S (l.set k (K.torn s j))) ∧ Box wr (w.heap.size + 1) 24 (U s).toArray ∧ Box wr (w.heap.size + 1 + 1) 34 #[.slice none 0 0, .int .i64 0, .bool false] ∧ Below w.heap.size w wr) (fun v _ => (64 - intOf v).toNat)
    case atStart => exact ⟨0, by omega, rfl, by omega, Y', own2, B, Z, b⟩
    case round =>
      clear Y Y' own2 B Z b
      obtain ⟨j, hj, rfl, hfj, Y, own, B, Z, b⟩ := hrel
      have OWN := Lib.hid own
      clear own
      have y0 := Y.at 0 rfl
      have y1 := Y.at 1 rfl
      have y2 := Y.at 2 rfl
      have yc := Y.cold
      have z0 := Z.at 0 rfl
      have z1 := Z.at 1 rfl
      have z2 := Z.at 2 rfl
      have zc := Z.cold
      by_cases hj64 : j = 64
      · obtain rfl : j = 64 := hj64
        have EP : Hid (K.put ⟨l, f, false⟩ (k : Int) s = (⟨l.set k s, left f 64, false⟩, 0)) := Lib.hid (by
          rw [K.put_yes HA.out (by rcases hfj with h | h; exact Or.inl h; exact Or.inr (by simpa using h))]
          rfl)
        go_wp2
        have Z2 := ((Z.set 0 (.slice (some ⟨g, 0, none⟩) n c3)).set 1 (.int .i64 (left f 64))).set 2 (.bool false)
        have q0 := Z2.at 0 rfl
        have q1 := Z2.at 1 rfl
        have q2 := Z2.at 2 rfl
        refine bodyPost_ret (v := .tuple #[.agg #[.slice (some ⟨g, 0, none⟩) n c3, .int .i64 (left f 64), .bool false], .int .i64 0]) (by simp [results, Try.results44, go_sem, q0, q1, q2]; try rfl) rfl (by
          have b5 := below_set (o := 2) (below_set (o := 1) (below_set (o := 0) b (show w.heap.size ≤ w.heap.size + 1 + 1 by omega) (.slice (some ⟨g, 0, none⟩) n c3)) (show w.heap.size ≤ w.heap.size + 1 + 1 by omega) (.int .i64 (left f 64))) (show w.heap.size ≤ w.heap.size + 1 + 1 by omega) (.bool false)
          have o5 := ownsRow_setCell_below (ownsRow_setCell_below (ownsRow_setCell_below OWN.out (a := ⟨w.heap.size + 1 + 1, 0, none⟩) (by show w.heap.size + 1 + 1 < _; omega) (.slice (some ⟨g, 0, none⟩) n c3)) (a := ⟨w.heap.size + 1 + 1, 1, none⟩) (by show w.heap.size + 1 + 1 < _; omega) (.int .i64 (left f 64))) (a := ⟨w.heap.size + 1 + 1, 2, none⟩) (by show w.heap.size + 1 + 1 < _; omega) (.bool false)
          rw [K.torn_all HS.out] at o5
          rw [EP.out]
          exact ⟨⟨_, _, _, rfl, KRd.of_own o5 (K.wf_set (d := ⟨l, f, false⟩) HW.out HS.out _ _), fun _ bk ok e => by obtain ⟨rfl, rfl⟩ : g = bk ∧ 0 = ok := (by simpa using e); omega⟩, b5⟩)
      · have hj2 : (j : Int) < 64 := by omega
        obtain ⟨φ, hφ⟩ : ∃ φ, left f j = φ := ⟨_, rfl⟩
        rw [hφ] at y1 Y
        have HP := Lib.hid hφ
        by_cases hz : φ = 0
        · subst hz
          have hfk : f = (j : Int) := by
            have := HP.out
            unfold left at this
            split at this <;> omega
          have EP : Hid (K.put ⟨l, f, false⟩ (k : Int) s = (⟨l.set k (K.torn s j), -1, true⟩, 9)) := Lib.hid (by
            rw [K.put_torn HA.out (k := j) hfk (by omega)]
            rfl)
          clear hφ hfk
          go_wp2
          have o4 := (ownsRow_setCell_other (ownsRow_setCell_other OWN.out (a := ⟨yb, 1, none⟩) (by simp [Value.ownBlock]; omega) (.int .i64 (-1))) (a := ⟨yb, 2, none⟩) (by simp [Value.ownBlock]; omega) (.bool true))
          have Z2 := (((((Z.other (b' := yb) (o := 1) (by omega) (.int .i64 (-1))).other (b' := yb) (o := 2) (by omega) (.bool true))).set 0 (.slice (some ⟨g, 0, none⟩) n c3)).set 1 (.int .i64 (-1))).set 2 (.bool true)
          have q0 := Z2.at 0 rfl
          have q1 := Z2.at 1 rfl
          have q2 := Z2.at 2 rfl
          refine bodyPost_ret (v := .tuple #[.agg #[.slice (some ⟨g, 0, none⟩) n c3, .int .i64 (-1), .bool true], .int .i64 9]) (by simp [results, Try.results44, go_sem, q0, q1, q2]; try rfl) rfl (by
            have b5 := below_set (o := 2) (below_set (o := 1) (below_set (o := 0) (below_set (o := 2) (below_set (o := 1) b (show w.heap.size ≤ yb by omega) (.int .i64 (-1))) (show w.heap.size ≤ yb by omega) (.bool true)) (show w.heap.size ≤ w.heap.size + 1 + 1 by omega) (.slice (some ⟨g, 0, none⟩) n c3)) (show w.heap.size ≤ w.heap.size + 1 + 1 by omega) (.int .i64 (-1))) (show w.heap.size ≤ w.heap.size + 1 + 1 by omega) (.bool true)
            have o5 := ownsRow_setCell_below (ownsRow_setCell_below (ownsRow_setCell_below o4 (a := ⟨w.heap.size + 1 + 1, 0, none⟩) (by show w.heap.size + 1 + 1 < _; omega) (.slice (some ⟨g, 0, none⟩) n c3)) (a := ⟨w.heap.size + 1 + 1, 1, none⟩) (by show w.heap.size + 1 + 1 < _; omega) (.int .i64 (-1))) (a := ⟨w.heap.size + 1 + 1, 2, none⟩) (by show w.heap.size + 1 + 1 < _; omega) (.bool true)
            rw [EP.out]
            exact ⟨⟨_, _, _, rfl, KRd.of_own o5 (K.wf_set (d := ⟨l, f, false⟩) HW.out (K.torn_len HS.out hj) _ _), fun _ bk ok e => by obtain ⟨rfl, rfl⟩ : g = bk ∧ 0 = ok := (by simpa using e); omega⟩, b5⟩)
        · have hzb : (φ == 0) = false := beq_eq_false_iff_ne.2 hz
          have hj1 : j < 64 := by omega
          have hj0 : (0 : Int) ≤ (j : Int) := by omega
          obtain ⟨x, hx⟩ : ∃ x, s[j]? = some x := ⟨_, List.getElem?_eq_getElem (by rw [HS.out]; exact hj1)⟩
          have bx : wr.cell? ⟨w.heap.size + 1, j, none⟩ = some (.int .u8 (x.toNat : Int)) := B.at j (by rw [List.getElem?_toArray, U_get, hx]; rfl)
          obtain ⟨tv, tx⟩ := Option.isSome_iff_exists.1 (own_there OWN.out hk j hj1).1
          have tf := (own_there OWN.out hk j hj1).2
          have HX := Lib.hid hx
          have hown2 := own_byte OWN.out (set_all HWL.out (K.torn_len HS.out hj)) (k := k) (s := K.torn s j) (List.getElem?_set_self HK.out) hj1 x
          rw [K.torn_set HS.out hj1 hx, K.set_set] at hown2
          have HOWN := Lib.hid hown2
          have Y2 := Y.other (b' := g) (o := k * 64 + j) (by omega) (.int .u8 (x.toNat : Int))
          have B2 := B.other (b' := g) (o := k * 64 + j) (by omega) (.int .u8 (x.toNat : Int))
          have Z2 := Z.other (b' := g) (o := k * 64 + j) (by omega) (.int .u8 (x.toNat : Int))
          have b2 := below_set (o := k * 64 + j) b (show w.heap.size ≤ g by omega) (.int .u8 (x.toNat : Int))
          clear hφ hx hown2
          go_wp2_with fail
          go_region
          clear Y B Z b OWN y0 y1 y2 yc z0 z1 z2 zc bx tx tf
          have OWN : Hid ((wr.setCell ⟨g, k * 64 + j, none⟩ (.int .u8 (x.toNat : Int))).drew.ownsRow w2.heap.size 24 64 (.slice (some ⟨g, 0, none⟩) n c3) n (S (l.set k (K.torn s (j + 1))))) := Lib.hid HOWN.out
          replace Y2 := Y2.drew
          replace B2 := B2.drew
          replace Z2 := Z2.drew
          replace b2 := b2.drew
          clear HOWN
          generalize (wr.setCell ⟨g, k * 64 + j, none⟩ (.int .u8 (x.toNat : Int))).drew = w6 at *
          have y0 := Y2.at 0 rfl
          have y1 := Y2.at 1 rfl
          have yc := Y2.cold
          by_cases hm : f = -1
          · have e1 : φ = -1 := by have := HP.out; unfold left at this; rw [if_pos hm] at this; omega
            have e2 : left f (j + 1) = φ := by unfold left; rw [if_pos hm, e1]
            have E2 := Lib.hid e2
            have d0 : decide (0 < φ) = false := decide_eq_false (by omega)
            have HM := Lib.hid hm
            clear e1 e2 hm
            go_wp2
            go_roundw
            case rel => exact ⟨j + 1, by omega, by go_num, Or.inl HM.out, by rw [E2.out]; exact Y2, OWN.out, B2, Z2, b2⟩
            case measure => simp [intOf]; omega
          · have e1 : φ = f - j := by have := HP.out; unfold left at this; rw [if_neg hm] at this; omega
            have hp : 0 < φ := by omega
            have e2 : left f (j + 1) = φ - 1 := by unfold left; rw [if_neg hm]; omega
            have E2 := Lib.hid e2
            have E1 := Lib.hid e1
            have d0 : decide (0 < φ) = true := decide_eq_true hp
            have e3 : wrap64 (φ - 1) = φ - 1 := wrap64_fit (by omega) (by omega)
            clear e1 e2 hm
            go_wp2
            go_roundw
            case rel => exact ⟨j + 1, by omega, by go_num, Or.inr (by have := E1.out; push_cast; omega), by rw [E2.out]; exact Y2.set 1 (.int .i64 (φ - 1)), ownsRow_setCell_other OWN.out (a := ⟨yb, 1, none⟩) (by simp [Value.ownBlock]; omega) _, B2.other (by omega) _, Z2.other (by omega) _, below_set (o := 1) b2 (by omega) _⟩
            case measure => simp [intOf]; omega
  · have t1 : (K.asked ⟨l, f, o⟩ i != 0) = true := bne_iff_ne.2 ha
    have EP := Lib.hid (K.put_no (b := s) ha)
    clear ha
    go_wp2
    have Z2 := ((Z.set 0 (.slice A n c)).set 1 (.int .i64 f)).set 2 (.bool o)
    have q0 := Z2.at 0 rfl
    have q1 := Z2.at 1 rfl
    have q2 := Z2.at 2 rfl
    refine bodyPost_ret (v := .tuple #[.agg #[.slice A n c, .int .i64 f, .bool o], .int .i64 (K.asked ⟨l, f, o⟩ i)]) (by simp [results, Try.results44, go_sem, q0, q1, q2]; try rfl) rfl (by
      have b5 := below_set (o := 2) (below_set (o := 1) (below_set (o := 0) b (show w.heap.size ≤ w.heap.size + 1 + 1 by omega) (.slice A n c)) (show w.heap.size ≤ w.heap.size + 1 + 1 by omega) (.int .i64 f)) (show w.heap.size ≤ w.heap.size + 1 + 1 by omega) (.bool o)
      rw [EP.out]
      exact ⟨⟨A, n, c, rfl, h0.belowH b5, fun h => absurd h (by simpa using t1)⟩, b5⟩)
end Go.Proofs.Ytipccalbhlhljaa

