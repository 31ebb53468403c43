/- JRef JRef2 (merged). -/
import Derived.Test.YtipccalbhlhljaaJKMem
import Derived.Test.YtipccalbhlhljaaJKRefB
import Derived.Test.YtipccalbhlhljaaJKRef7
import Derived.Test.YtipccalbhlhljaaJQS
import Derived.Test.YtipccalbhlhljaaJSS
namespace Go.Proofs.Ytipccalbhlhljaa
set_option linter.unusedVariables false
set_option linter.unusedSimpArgs false
open Go.RowKit
set_option maxHeartbeats 1000000 in
theorem rjmay_any (x : Rc) (w : World) (hx : RcIn x) : Calls Try.prog 30 #[rv x] w (BoolK (decide (J.may x)) w) := by
  obtain ⟨q, g, s⟩ := x
  obtain ⟨hq, hg, hn⟩ := hx
  simp only at hq hg hn
  simp only [rv]
  have X := Box.new w #[.int .i64 q, .int .i64 g, .string (strB s)] 23
  have b := (Below.refl w.heap.size w).alloc (Nat.le_refl _) (.cells #[.int .i64 q, .int .i64 g, .string (strB s)] 23)
  have x0 := X.at 0 rfl
  have x1 := X.at 1 rfl
  have x2 := X.at 2 rfl
  have ans : ∀ v : Bool, (J.may ⟨q, g, s⟩ ↔ v = true) → BoolK (decide (J.may ⟨q, g, s⟩)) w (.returned (.bool v)) (w.alloc (.cells #[.int .i64 q, .int .i64 g, .string (strB s)] 23)) := fun v hv => by
    refine ⟨ret_bool ?_, b⟩
    cases v
    · exact (decide_eq_false fun hr => by simpa using hv.1 hr).symm
    · exact (decide_eq_true (hv.2 rfl)).symm
  have D : J.may ⟨q, g, s⟩ ↔ 1 ≤ q ∧ q ≤ 1099511627776 ∧ 1 ≤ g ∧ g ≤ 1099511627776 ∧ s.length ≤ 30 := Iff.rfl
  have ANS := Lib.hid ans
  have hsz : (strB s).size = s.length := J.strB_size s
  have DD := Lib.hid D
  obtain ⟨t, ht⟩ : ∃ t, strB s = t := ⟨_, rfl⟩
  rw [ht] at hsz
  rw [ht] at X b x0 x1 x2 ANS ⊢
  have HT := Lib.hid hsz
  have htn : t.size ≤ 9223372036854775807 := by omega
  clear ans D hsz ht
  by_cases c1 : 1 ≤ q
  · by_cases c2 : q ≤ 1099511627776
    · by_cases c3 : 1 ≤ g
      · by_cases c4 : g ≤ 1099511627776
        · go_enter Try.func30, Try.ntmps30
          go_wp2
          go_ret
          exact ANS.out _ (DD.out.trans (by have := HT.out; simp; omega))
        · go_enter Try.func30, Try.ntmps30
          go_wp2
          go_ret
          exact ANS.out _ (DD.out.trans (by simp; omega))
      · go_enter Try.func30, Try.ntmps30
        go_wp2
        go_ret
        exact ANS.out _ (DD.out.trans (by simp; omega))
    · go_enter Try.func30, Try.ntmps30
      go_wp2
      go_ret
      exact ANS.out _ (DD.out.trans (by simp; omega))
  · go_enter Try.func30, Try.ntmps30
    go_wp2
    go_ret
    exact ANS.out _ (DD.out.trans (by simp; omega))
end Go.Proofs.Ytipccalbhlhljaa

namespace Go.Proofs.Ytipccalbhlhljaa
set_option linter.unusedVariables false
set_option linter.unusedSimpArgs false
open Go.RowKit
/-- bytes that are answered -/
def ByR (l : List UInt8) (w : World) (e : Ending) (w' : World) : Prop := (∃ A n c, e = .returned (.slice A n c) ∧ Rd w' w'.heap.size 1 A n (U l) ∧ n ≤ c ∧ c ≤ 9223372036854775807 ∧ ∀ ad, A = some ad → w.heap.size ≤ ad.block) ∧ Below w.heap.size w w'
theorem rnum_by (A : Option Addr) (n c : Nat) (l : List UInt8) (m : Int) (w : World) (h : Rd w w.heap.size 1 A n (U l)) (hn : n ≤ 35184372088832) : Calls Try.prog 33 #[.slice A n c, .int .i64 m] w (ByR (l ++ Q.ub m) w) :=
  (rnum_any A n c w.heap.size (U l) m w h (U_one _) (Nat.le_refl _) hn).mono fun e w' ⟨A', c', he, ho, hb⟩ => ⟨⟨A', _, c', he, by rw [U_append]; exact Rd.of_own ho, (own_cap ho).1, (own_cap ho).2, fun ad hA => own_far ho hA⟩, hb⟩
theorem rtext_by (A : Option Addr) (n c : Nat) (l : List UInt8) (s : ByteArray) (w : World) (h : Rd w w.heap.size 1 A n (U l)) (hn : n ≤ 17592186044416) (hs : s.size ≤ 17592186044416) : Calls Try.prog 32 #[.slice A n c, .string s] w (ByR (l ++ Q.txt s) w) :=
  (rtext_any A n c w.heap.size (U l) s w h (U_one _) (Nat.le_refl _) hn hs).mono fun e w' ⟨A', c', he, ho, hb⟩ => ⟨⟨A', _, c', he, by rw [U_append]; exact Rd.of_own ho, (own_cap ho).1, (own_cap ho).2, fun ad hA => own_far ho hA⟩, hb⟩
theorem rseal_by (A : Option Addr) (n c : Nat) (l : List UInt8) (w : World) (h : Rd w w.heap.size 1 A n (U l)) (hn : n ≤ 35184372088832) : Calls Try.prog 31 #[.slice A n c] w (ByR (S.sealed l) w) :=
  (rseal_any A n c w.heap.size l w h (Nat.le_refl _) hn).mono fun e w' ⟨A', c', he, ho, hb⟩ => ⟨⟨A', _, c', he, Rd.of_own ho, (own_cap ho).1, (own_cap ho).2, fun ad hA => own_far ho hA⟩, hb⟩
theorem Box.bytes {w : World} {b : Nat} {T : TypeId} {l : List UInt8} (h : Box w b T (U l).toArray) (hl : l.length = 64) : w.there b 0 64 := by
  have h1 := h.there
  have e : (U l).toArray.size = 64 := by rw [List.size_toArray, U_length, hl]
  rw [e] at h1
  exact h1
theorem torn0 (b : List UInt8) : K.torn b 0 = K.zero := K.torn_none b
/-- a sector laid over a block of one sector -/
theorem Box.whole {w : World} {b : Nat} {T : TypeId} {l s : List UInt8} (h : Box w b T (U l).toArray) (hl : l.length = 64) (hs : s.length = 64) : Box (w.setCells b 0 (U s)) b T (U s).toArray := by
  have h1 := Box.setCells (w := w) (U s) 0 w (U l) h
  rwa [laid_all (by rw [U_length, U_length, hl, hs])] at h1
set_option maxHeartbeats 2000000 in
set_option maxRecDepth 20000 in
theorem rjlay_any (x : Rc) (w : World) (hx : RcIn x) : Calls Try.prog 10 #[rv x] w (SecR (J.lay x).1 (J.lay x).2 w) := by
  have hM := fun w => rjmay_any x w hx
  obtain ⟨q, g, s⟩ := x
  simp only [rv] at hM ⊢
  have X := ((Box.new w #[.int .i64 q, .int .i64 g, .string (strB s)] 23).alloc (.cells (U K.zero).toArray 24)).alloc (.cells (U K.zero).toArray 24)
  have Z := (Box.new (w.alloc (.cells #[.int .i64 q, .int .i64 g, .string (strB s)] 23)) (U K.zero).toArray 24).alloc (.cells (U K.zero).toArray 24)
  have O := Box.new ((w.alloc (.cells #[.int .i64 q, .int .i64 g, .string (strB s)] 23)).alloc (.cells (U K.zero).toArray 24)) (U K.zero).toArray 24
  have b := (((Below.refl w.heap.size w).alloc (Nat.le_refl _) (.cells #[.int .i64 q, .int .i64 g, .string (strB s)] 23)).alloc (by simp) (.cells (U K.zero).toArray 24)).alloc (by simp; omega) (.cells (U K.zero).toArray 24)
  rw [show (w.alloc (.cells #[.int .i64 q, .int .i64 g, .string (strB s)] 23)).heap.size = w.heap.size + 1 by simp] at Z
  rw [show ((w.alloc (.cells #[.int .i64 q, .int .i64 g, .string (strB s)] 23)).alloc (.cells (U K.zero).toArray 24)).heap.size = w.heap.size + 1 + 1 by simp] at O
  go_enter Try.func10, Try.ntmps10
  have x0 := X.at 0 rfl
  have x1 := X.at 1 rfl
  have x2 := X.at 2 rfl
  go_wp2_with (first | with_reducible refine sec_alloc _ ?_)
  generalize ((w.alloc (.cells #[.int .i64 q, .int .i64 g, .string (strB s)] 23)).alloc (.cells (U K.zero).toArray 24)).alloc (.cells (U K.zero).toArray 24) = w1 at *
  refine (hM _).mono ?_
  rintro e w2 ⟨rfl, hb⟩
  clear hM x0 x1 x2
  replace X := X.belowH hb
  replace Z := Z.belowH hb
  replace O := O.belowH hb
  replace b := b.trans (hb.mono b.size)
  clear hb
  have HT := Lib.hid (Z.bytes zero_len)
  by_cases hm : J.may ⟨q, g, s⟩
  · have e0 : J.lay ⟨q, g, s⟩ = (J.sec ⟨q, g, s⟩, 0) := by unfold J.lay; rw [if_pos hm]
    rw [decide_eq_true hm]
    have E0 := Lib.hid e0
    have HM := Lib.hid hm
    obtain ⟨m1, m2, m3, m4, m5⟩ := hm
    have fl := J.full_len ⟨q, g, s⟩
    have bl := J.body_len HM.out
    simp only at m1 m2 m3 m4 m5
    have hsz : (strB s).size ≤ 30 := by rw [J.strB_size]; omega
    clear e0 HT
    go_wp2_with fail
    replace X := X.drew
    replace Z := Z.drew
    replace O := O.drew
    replace b := b.drew
    have x0 := X.at 0 rfl
    have x1 := X.at 1 rfl
    have x2 := X.at 2 rfl
    refine wp_region_held_drew (S := (fun w' => w'.cell? ⟨w.heap.size, 0, none⟩ = some (.int .i64 q) ∧ w'.cell? ⟨w.heap.size, 1, none⟩ = some (.int .i64 g) ∧ w'.cell? ⟨w.heap.size, 2, none⟩ = some (.string (strB s)))) (by kernel_rfl) (by exact ⟨x0, x1, x2⟩) (fun hHeld0 => ?_)
    refine tk 0 11 rfl hHeld0 ?_
    refine tk 1 12 rfl hHeld0 ?_
    refine tk 3 14 rfl hHeld0 ?_
    refine tk 4 15 rfl hHeld0 ?_
    refine tk 6 17 rfl hHeld0 ?_
    refine tk 7 18 rfl hHeld0 ?_
    refine wpAnyH_ready (rs := [2]) (by kernel_rfl) (by simp) (AllReadyH.cons (o := ⟨some 13, _, _, _, _, _⟩) rfl (fun K hK => ?_) AllReadyH.nil)
    go_simp
    (refine (rnum_by none 0 0 [] q _ (Rd.zero _ _ _ _) (by omega)).mono ?_; rintro e v1 ⟨⟨A1, n1, c1, rfl, R1, hc1⟩, hb⟩; replace X := X.belowH hb; replace Z := Z.belowH hb; replace O := O.belowH hb; replace b := b.trans (hb.mono b.size); clear hb x0 x1 x2; have x0 := X.at 0 rfl; have x1 := X.at 1 rfl; have x2 := X.at 2 rfl; have l1 := R1.len1; rw [U_length] at l1; have z1 := Q.size_le q; rw [List.nil_append, Q.length_ub] at l1)
    go_simp
    refine hK.out _ _ (by exact ⟨x0, x1, x2⟩) (fun hHeld1 => ?_)
    clear hK hHeld0 K
    try simp only [Act.put, sA, sB, sC]
    refine wpAnyH_ready (rs := [5]) (by kernel_rfl) (by simp) (AllReadyH.cons (o := ⟨some 16, _, _, _, _, _⟩) rfl (fun K hK => ?_) AllReadyH.nil)
    go_simp
    (refine (rnum_by A1 n1 c1 _ g _ R1 (by omega)).mono ?_; rintro e v2 ⟨⟨A2, n2, c2, rfl, R2, hc2⟩, hb⟩; replace X := X.belowH hb; replace Z := Z.belowH hb; replace O := O.belowH hb; replace b := b.trans (hb.mono b.size); clear hb x0 x1 x2; have x0 := X.at 0 rfl; have x1 := X.at 1 rfl; have x2 := X.at 2 rfl; have l2 := R2.len1; rw [U_length] at l2; have z2 := Q.size_le g; rw [List.nil_append, List.length_append, Q.length_ub, Q.length_ub] at l2)
    go_simp
    refine hK.out _ _ (by exact ⟨x0, x1, x2⟩) (fun hHeld2 => ?_)
    clear hK hHeld1 K
    try simp only [Act.put, sA, sB, sC]
    refine wpAnyH_ready (rs := [8]) (by kernel_rfl) (by simp) (AllReadyH.cons (o := ⟨some 19, _, _, _, _, _⟩) rfl (fun K hK => ?_) AllReadyH.nil)
    go_simp
    (refine (rtext_by A2 n2 c2 _ (strB s) _ R2 (by omega) (by omega)).mono ?_; rintro e v3 ⟨⟨A3, n3, c3, rfl, R3, hc3⟩, hb⟩; replace X := X.belowH hb; replace Z := Z.belowH hb; replace O := O.belowH hb; replace b := b.trans (hb.mono b.size); clear hb x0 x1 x2; have x0 := X.at 0 rfl; have x1 := X.at 1 rfl; have x2 := X.at 2 rfl; have hl3 := O.lt; have R3' : Rd v3 v3.heap.size 1 A3 n3 (U (J.body ⟨q, g, s⟩)) := (by rw [List.nil_append] at R3; exact R3); have l3 := R3'.len1; rw [U_length] at l3)
    go_simp
    refine hK.out _ _ (by exact ⟨x0, x1, x2⟩) (fun hHeld3 => ?_)
    clear hK hHeld2 K
    try simp only [Act.put, sA, sB, sC]
    refine wpAnyH_ready (rs := [9]) (by kernel_rfl) (by simp) (AllReadyH.cons (o := ⟨some 20, _, _, _, _, _⟩) rfl (fun K hK => ?_) AllReadyH.nil)
    go_simp
    (refine (rseal_by A3 n3 c3 _ _ R3' (by omega)).mono ?_; rintro e v4 ⟨⟨A4, n4, c4, rfl, R4, hc4⟩, hb⟩; replace X := X.belowH hb; replace Z := Z.belowH hb; replace O := O.belowH hb; replace b := b.trans (hb.mono b.size); clear hb x0 x1 x2; have x0 := X.at 0 rfl; have x1 := X.at 1 rfl; have x2 := X.at 2 rfl)
    go_simp
    refine hK.out _ _ (by exact ⟨x0, x1, x2⟩) (fun hHeld4 => ?_)
    clear hK hHeld3 K
    try simp only [Act.put, sA, sB, sC]
    refine tk 10 5 rfl hHeld4 ?_
    refine wpAnyH_done (by kernel_rfl) ?_ _
    clear R1 R2 R3 R3' hc1 hc2 hc3 l1 l2 l3 z1 z2
    have e4 : S.sealed (J.body ⟨q, g, s⟩) = J.full ⟨q, g, s⟩ := rfl
    rw [e4] at R4
    clear e4
    have l4 := R4.len1
    rw [U_length] at l4
    generalize hF : J.full ⟨q, g, s⟩ = F at *
    have HF := Lib.hid hF
    obtain ⟨bk, ok, rfl, hbk, hcl⟩ := R4.2 (by omega)
    have hfar : w.heap.size + 2 < bk := by have h1 := hc4.2.2 _ rfl; have h2 : w.heap.size + 1 + 1 < v3.heap.size := hl3; simp only at h1; omega
    have hrg : v4.rangeAt bk ok (U F) := fun j v hv => by
      have hj : j < (U F).length := (List.getElem?_eq_some_iff.1 hv).1
      rw [hcl j hj, hv]
    have n4a : 4 ≤ n4 := by omega
    have n4b : n4 ≤ 47 := by omega
    have HL4 := Lib.hid l4
    clear hcl hbk hF l4 fl bl R4 hc4 x0 x1 x2
    rw [← torn0 F] at O
    clear hHeld4
    go_wp2_with fail
    go_loopw [6] (fun iv wr => ∃ k : Nat, k ≤ n4 ∧ iv = .int .i64 (k : Int) ∧ Box wr (w.heap.size + 1 + 1) 24 (U (K.torn F k)).toArray ∧ Box wr (w.heap.size + 1) 24 (U K.zero).toArray ∧ wr.rangeAt bk ok (U F) ∧ Below w.heap.size w wr) (fun iv _ => n4 - (intOf iv).toNat)
    case atStart => exact ⟨0, by omega, rfl, O, Z, hrg, b⟩
    case round =>
      clear X O Z hrg b
      obtain ⟨k, hk, rfl, O, Z, hrg, b⟩ := hrel
      have oc := O.cold
      by_cases hkl : k < n4
      · have hk64 : k < 64 := by omega
        have hk0 : (0 : Int) ≤ (k : Int) := by omega
        obtain ⟨y, hy⟩ : ∃ y, F[k]? = some y := ⟨_, List.getElem?_eq_getElem (by rw [HL4.out]; exact hkl)⟩
        have cy : wr.cell? ⟨bk, ok + k, none⟩ = some (.int .u8 (y.toNat : Int)) := hrg k _ (by rw [U_get, hy]; rfl)
        have hlt := torn_len2 (b := F) (k := k) (by rw [HL4.out]; exact hk) (by rw [HL4.out]; omega)
        obtain ⟨tv, tx⟩ : ∃ tv, wr.cell? ⟨w.heap.size + 1 + 1, k, none⟩ = some tv := ⟨_, O.at k (List.getElem?_eq_getElem (by rw [U_length, hlt]; exact hk64) ▸ List.getElem?_toArray)⟩
        have O2 := boxU_byte O k y
        rw [torn_next (by rw [HL4.out]; exact hkl) (by rw [HL4.out]; omega) hy] at O2
        have Z2 := Z.other (b' := w.heap.size + 1 + 1) (o := k) (by omega) (.int .u8 (y.toNat : Int))
        have r2 : (wr.setCell ⟨w.heap.size + 1 + 1, k, none⟩ (.int .u8 (y.toNat : Int))).rangeAt bk ok (U F) := fun j v hv => by
          rw [World.cell?_setCell_far wr _ _ _ (by show w.heap.size + 1 + 1 ≠ bk; omega)]
          exact hrg j v hv
        have b2 := below_set (o := k) b (show w.heap.size ≤ w.heap.size + 1 + 1 by omega) (.int .u8 (y.toNat : Int))
        clear hy hlt O Z hrg b
        go_wp2
        go_roundw
        case rel => exact ⟨k + 1, by omega, by go_num, O2, Z2, r2, b2⟩
        case measure => simp [intOf]; omega
      · have hkk : ¬ (k : Int) < (n4 : Int) := by omega
        have O1 : Box wr (w.heap.size + 1 + 1) 24 (U (K.torn F n4)).toArray := by have e : k = n4 := (by omega); rw [← e]; exact O
        have hlt := torn_len2 (b := F) (k := n4) (by rw [HL4.out]; exact Nat.le_refl _) (by rw [HL4.out]; omega)
        have h63 : 63 < (U (K.torn F n4)).length := by rw [U_length, hlt]; omega
        obtain ⟨tv, tx⟩ : ∃ tv, wr.cell? ⟨w.heap.size + 1 + 1, 63, none⟩ = some tv := ⟨_, O1.at 63 (by rw [List.getElem?_toArray]; exact List.getElem?_eq_getElem h63)⟩
        have O2 := boxU_byte O1 63 165
        have e165 : (((165 : UInt8).toNat : Nat) : Int) = 165 := rfl
        have es : (K.torn F n4).set 63 165 = J.sec ⟨q, g, s⟩ := by rw [← HF.out, ← HL4.out, ← HF.out]; exact torn_sec HM.out
        rw [es, e165] at O2
        have hsl : Hid ((J.sec ⟨q, g, s⟩).length = 64) := Lib.hid (J.sec_len HM.out)
        have Z2 := Z.other (b' := w.heap.size + 1 + 1) (o := 63) (by omega) (.int .u8 165)
        have HT := Lib.hid (Z2.bytes zero_len)
        have b2 := below_set (o := 63) b (show w.heap.size ≤ w.heap.size + 1 + 1 by omega) (.int .u8 165)
        clear es e165 hlt h63 O1 O Z hrg b
        go_wp2_with (first | ((with_reducible refine sec_take _ (w.heap.size + 1 + 1) 0 (J.sec ⟨q, g, s⟩) hsl.out (sec_box O2) ?hw ?hx ?_); (case hw => rfl); (case hx => rfl)) | ((with_reducible refine sec_put (w.heap.size + 1) 0 (J.sec ⟨q, g, s⟩) hsl.out HT.out ?hx ?hy ?_); (case hx => rfl); (case hy => rfl)) | with_reducible refine body_stop ?_)
        generalize wr.setCell ⟨w.heap.size + 1 + 1, 63, none⟩ (.int .u8 165) = wz at *
        have LV : (loadVar 24 ⟨w.heap.size + 1, 0, none⟩).run Try.prog (wz.setCells (w.heap.size + 1) 0 (U (J.sec ⟨q, g, s⟩))) = .ok (.agg (U (J.sec ⟨q, g, s⟩)).toArray) (wz.setCells (w.heap.size + 1) 0 (U (J.sec ⟨q, g, s⟩))) :=
          run_loadVar_mid _ _ _ _ _ _ (World.rangeAt_setCells_same _ _ _ _ (by rw [U_length, hsl.out]; exact HT.out)) Try.underlying24 rfl (by rw [U_length, hsl.out]; rfl)
        refine Lib.hid (bodyPost_ret (v := .tuple #[.agg (U (J.sec ⟨q, g, s⟩)).toArray, .int .i64 0]) ?_ rfl ?_)
        · exact results_cell_tmp 2 24 3 Try.results10 _ rfl _ _ rfl LV
        · exact ⟨by rw [E0.out], below_setCells (by omega) _ _ _ b2⟩
  · have e0 : J.lay ⟨q, g, s⟩ = (K.zero, 1) := by unfold J.lay; rw [if_neg hm]
    rw [decide_eq_false hm]
    have E0 := Lib.hid e0
    clear hm e0
    go_wp2_with (first | ((with_reducible refine sec_take _ (w.heap.size + 1 + 1) 0 K.zero zero_len (sec_box O) ?hw ?hx ?_); (case hw => rfl); (case hx => rfl)) | ((with_reducible refine sec_put (w.heap.size + 1) 0 K.zero zero_len HT.out ?hx ?hy ?_); (case hx => rfl); (case hy => rfl)) | with_reducible refine body_stop ?_)
    have LV : (loadVar 24 ⟨w.heap.size + 1, 0, none⟩).run Try.prog (w2.setCells (w.heap.size + 1) 0 (U K.zero)) = .ok (.agg (U K.zero).toArray) (w2.setCells (w.heap.size + 1) 0 (U K.zero)) :=
      run_loadVar_mid _ _ _ _ _ _ (World.rangeAt_setCells_same _ _ _ _ (by rw [U_length, zero_len]; exact HT.out)) Try.underlying24 rfl (by rw [U_length, zero_len]; rfl)
    refine Lib.hid (bodyPost_ret (v := .tuple #[.agg (U K.zero).toArray, .int .i64 1]) ?_ rfl ?_)
    · exact results_cell_tmp 2 24 3 Try.results10 _ rfl _ _ rfl LV
    · exact ⟨by rw [E0.out], below_setCells (by omega) _ _ _ b⟩
end Go.Proofs.Ytipccalbhlhljaa

