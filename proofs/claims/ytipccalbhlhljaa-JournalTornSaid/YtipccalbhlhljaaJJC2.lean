/- JC2 (merged). -/
import Derived.Test.YtipccalbhlhljaaJJC1
namespace Go.Proofs.Ytipccalbhlhljaa
set_option linter.unusedVariables false
set_option linter.unusedSimpArgs false
open Go.RowKit
theorem laid_torn {F : List UInt8} (h : F.length ≤ 64) : laid (U K.zero) 0 (U F) = U (K.torn F F.length) := by
  refine List.ext_getElem? fun j => ?_
  by_cases hj : j < F.length
  · have h1 := laid_in (U F) (U K.zero) 0 j (by rw [U_length, U_length, zero_len]; omega) (by rw [U_length]; exact hj)
    rw [Nat.zero_add] at h1
    rw [h1, U_get, U_get]
    unfold K.torn
    rw [List.take_length, List.getElem?_append_left hj]
  · rw [laid_out _ _ _ _ (by rw [U_length]; omega), U_get, U_get]
    unfold K.torn K.zero
    rw [List.take_length, List.getElem?_append_right (by omega)]
    by_cases h64 : j < 64
    · rw [List.getElem?_replicate, List.getElem?_replicate, if_pos (by omega), if_pos (by omega)]
    · rw [List.getElem?_replicate, List.getElem?_replicate, if_neg (by omega), if_neg (by omega)]
/-- 'copy' of bytes that read, at a step of a region that draws its order -/
theorem step_copy {P : Program} {ops : Array Oper} {o : Oper} {a : Act} {w : World} {K : Act → World → Prop} {Q : Exit → Act → World → Prop} {E : Prop} (hgd : o.guard = none) (d s : Operand) (dT sT : TypeId)
    (ho : o.op = .call { callee := .builtin .copy, args := #[d, s], argTypes := #[dT, sT] }) (elem : TypeId) (hu : P.underlying dT = some (.slice elem)) (hsz : (P.info? elem).map (·.size) = some 1)
    (b of dLen dCap : Nat) (ad : Addr) (sLen sCap : Nat) (hd : a.eval d = .slice (some ⟨b, of, none⟩) dLen dCap) (hs : a.eval s = .slice (some ad) sLen sCap) (cs : List Value) (hn : cs.length = Nat.min sLen dLen)
    (hsrc : ∀ j v, cs[j]? = some v → w.cell? (ad.add j) = some v) (hc : ∀ j, j < cs.length → (w.cell? ⟨b, of + j, none⟩).isSome = true) (hf : ∀ j, j < cs.length → w.frozen? ⟨b, of + j, none⟩ = false) (h1 : ∀ v ∈ cs, v.oneCell' = true)
    (h : K (a.put o.dst (goInt cs.length)) (w.setCells b of cs)) :
    if Region.wanted o (yielded ops a.tmps) = true then Oper.wp P o a w K Q else E := by
  have hw : Region.wanted o (yielded ops a.tmps) = true := by simp [Region.wanted, hgd]
  rw [if_pos hw]
  have hrun := run_copy_cells (P := P) w dT sT o.type elem b of dLen dCap ad sLen sCap cs hu hsz hn hsrc hc hf h1
  unfold Oper.wp
  simp [execOp, ho, resolve, invoke, builtin, hd, hs, hrun, Result.andThen]
  exact h
theorem box_some {w : World} {b : Nat} {T : TypeId} {l : List UInt8} (h : Box w b T (U l).toArray) {j : Nat} (hj : j < l.length) : (w.cell? ⟨b, j, none⟩).isSome = true := by
  have hj2 : j < (U l).length := by rw [U_length]; exact hj
  rw [h.at j (v := (U l)[j]'hj2) (by rw [List.getElem?_toArray]; exact List.getElem?_eq_getElem hj2)]
  rfl
theorem jnum_by (A1 : Option Addr) (c1 : Nat) (q g : Int) (w : World) (hl : Rd w w.heap.size 1 A1 2 (I [q, g])) : Calls Try.prog 29 #[.slice none 0 0, .slice A1 2 c1] w (ByR (Q.ub q ++ Q.ub g) w) := by
  refine (num_any none A1 0 0 2 c1 w.heap.size [] [q, g] w (Rd.zero _ _ _ _) (by simp) hl (Nat.le_refl _) (by omega) (by omega)).mono ?_
  rintro e w' ⟨A', c', he, ho, hb⟩
  have h1 := Rd.of_own ho
  have e2 : Q.ubs [q, g] = Q.ub q ++ Q.ub g := by simp [Q.ubs]
  rw [List.nil_append, e2] at h1
  exact ⟨⟨A', _, c', he, h1, (own_cap ho).1, (own_cap ho).2, fun ad hA => own_far ho hA⟩, hb⟩
theorem jtext_by (A : Option Addr) (n c : Nat) (l : List UInt8) (s : ByteArray) (w : World) (h : Rd w w.heap.size 1 A n (U l)) (hn : n ≤ 17592186044416) (hs : s.size ≤ 17592186044416) : Calls Try.prog 28 #[.slice A n c, .string s] w (ByR (l ++ Q.txt s) w) :=
  (text_any A n c w.heap.size (U l) s w h (U_one _) (Nat.le_refl _) hn hs).mono fun e w' ⟨A', c', he, ho, hb⟩ => ⟨⟨A', _, c', he, by rw [U_append]; exact Rd.of_own ho, (own_cap ho).1, (own_cap ho).2, fun ad hA => own_far ho hA⟩, hb⟩
theorem jseal_by (A : Option Addr) (n c : Nat) (l : List UInt8) (w : World) (h : Rd w w.heap.size 1 A n (U l)) (hn : n ≤ 35184372088832) : Calls Try.prog 27 #[.slice A n c] w (ByR (S.sealed l) w) :=
  (seal_any A n c w.heap.size l w h (Nat.le_refl _) hn).mono fun e w' ⟨A', c', he, ho, hb⟩ => ⟨⟨A', _, c', he, Rd.of_own ho, (own_cap ho).1, (own_cap ho).2, fun ad hA => own_far ho hA⟩, hb⟩
set_option maxHeartbeats 2000000 in
set_option maxRecDepth 20000 in
theorem jlay_any (x : Rc) (w : World) (hx : RcIn x) : Calls Try.prog 9 #[rv x] w (SecR (J.lay x).1 (J.lay x).2 w) := by
  have hM := fun w => jmay_any x w hx
  obtain ⟨q, g, s⟩ := x
  simp only [rv] at hM ⊢
  have X := (Box.new w #[.int .i64 q, .int .i64 g, .string (strB s)] 23).alloc (.cells (U K.zero).toArray 24)
  have Z := Box.new (w.alloc (.cells #[.int .i64 q, .int .i64 g, .string (strB s)] 23)) (U K.zero).toArray 24
  have b := ((Below.refl w.heap.size w).alloc (Nat.le_refl _) (.cells #[.int .i64 q, .int .i64 g, .string (strB s)] 23)).alloc (by simp) (.cells (U K.zero).toArray 24)
  rw [show (w.alloc (.cells #[.int .i64 q, .int .i64 g, .string (strB s)] 23)).heap.size = w.heap.size + 1 by simp] at Z
  go_enter Try.func9, Try.ntmps9
  have x0 := X.at 0 rfl
  have x1 := X.at 1 rfl
  have x2 := X.at 2 rfl
  go_wp2_with (first | with_reducible refine sec_alloc _ ?_)
  generalize (w.alloc (.cells #[.int .i64 q, .int .i64 g, .string (strB s)] 23)).alloc (.cells (U K.zero).toArray 24) = w1 at *
  refine (hM _).mono ?_
  rintro e w2 ⟨rfl, hb⟩
  clear hM x0 x1 x2
  replace X := X.belowH hb
  replace Z := Z.belowH hb
  replace b := b.trans (hb.mono b.size)
  clear hb
  by_cases hm : J.may ⟨q, g, s⟩
  · have e0 : J.lay ⟨q, g, s⟩ = (J.sec ⟨q, g, s⟩, 0) := by unfold J.lay; rw [if_pos hm]
    rw [decide_eq_true hm]
    have E0 := Lib.hid e0
    have HM := Lib.hid hm
    obtain ⟨m1, m2, m3, m4, m5⟩ := hm
    have fl := J.full_len ⟨q, g, s⟩
    have bl := J.body_len HM.out
    simp only at m1 m2 m3 m4 m5
    have hsz : (strB s).size ≤ 30 := by rw [J.strB_size]; omega
    clear e0
    have hxb : w.heap.size + 1 < w2.heap.size := Z.lt
    have O := Box.new w2 (U K.zero).toArray 24
    replace X := X.alloc (.cells (U K.zero).toArray 24)
    replace Z := Z.alloc (.cells (U K.zero).toArray 24)
    replace b := b.alloc b.size (.cells (U K.zero).toArray 24)
    go_wp2_with (first | with_reducible refine sec_alloc _ ?_)
    generalize w2.alloc (.cells (U K.zero).toArray 24) = w3 at *
    generalize w2.heap.size = xb at *
    replace X := X.drew
    replace Z := Z.drew
    replace O := O.drew
    replace b := b.drew
    have x0 := X.at 0 rfl
    have x1 := X.at 1 rfl
    have x2 := X.at 2 rfl
    refine wp_region_held_drew (S := (fun w' => w'.cell? ⟨w.heap.size, 0, none⟩ = some (.int .i64 q) ∧ w'.cell? ⟨w.heap.size, 1, none⟩ = some (.int .i64 g) ∧ w'.cell? ⟨w.heap.size, 2, none⟩ = some (.string (strB s)))) (by kernel_rfl) (by exact ⟨x0, x1, x2⟩) (fun hHeld0 => ?_)
    refine tk 0 9 rfl hHeld0 ?_
    refine tk 1 10 rfl hHeld0 ?_
    refine tk 2 11 rfl hHeld0 ?_
    refine tk 3 12 rfl hHeld0 ?_
    refine tk 4 13 rfl hHeld0 ?_
    refine tk 7 16 rfl hHeld0 ?_
    refine tk 8 17 rfl hHeld0 ?_
    refine wpAnyH_ready (rs := [5]) (by kernel_rfl) (by simp) (AllReadyH.cons (o := ⟨some 14, _, _, _, _, _⟩) rfl (fun K hK => ?_) AllReadyH.nil)
    go_simp
    (have RL := (Rd.lit w3.drew #[.int .i64 q, .int .i64 g] 3 1 2 rfl); replace X := X.alloc (.cells #[.int .i64 q, .int .i64 g] 3); replace Z := Z.alloc (.cells #[.int .i64 q, .int .i64 g] 3); replace O := O.alloc (.cells #[.int .i64 q, .int .i64 g] 3); replace b := b.alloc b.size (.cells #[.int .i64 q, .int .i64 g] 3); clear x0 x1 x2; have x0 := X.at 0 rfl; have x1 := X.at 1 rfl; have x2 := X.at 2 rfl)
    go_simp
    refine hK.out _ _ (by exact ⟨x0, x1, x2⟩) (fun hHeld1 => ?_)
    clear hK hHeld0 K
    try simp only [Act.put, sA, sB, sC]
    refine wpAnyH_ready (rs := [6]) (by kernel_rfl) (by simp) (AllReadyH.cons (o := ⟨some 15, _, _, _, _, _⟩) rfl (fun K hK => ?_) AllReadyH.nil)
    go_simp
    (refine (jnum_by _ 2 q g _ (RL.more (by simp))).mono ?_; rintro e v2 ⟨⟨A2, n2, c2, rfl, R2, hc2⟩, hb⟩; replace X := X.belowH hb; replace Z := Z.belowH hb; replace O := O.belowH hb; replace b := b.trans (hb.mono b.size); clear hb; clear x0 x1 x2; have x0 := X.at 0 rfl; have x1 := X.at 1 rfl; have x2 := X.at 2 rfl; have l2 := R2.len1; rw [U_length] at l2; have z1 := Q.size_le q; have z2 := Q.size_le g; rw [List.length_append, Q.length_ub, Q.length_ub] at l2; clear RL)
    go_simp
    refine hK.out _ _ (by exact ⟨x0, x1, x2⟩) (fun hHeld2 => ?_)
    clear hK hHeld1 K
    try simp only [Act.put, sA, sB, sC]
    refine wpAnyH_ready (rs := [9]) (by kernel_rfl) (by simp) (AllReadyH.cons (o := ⟨some 18, _, _, _, _, _⟩) rfl (fun K hK => ?_) AllReadyH.nil)
    go_simp
    (refine (jtext_by A2 n2 c2 _ (strB s) _ R2 (by omega) (by omega)).mono ?_; rintro e v3 ⟨⟨A3, n3, c3, rfl, R3, hc3⟩, hb⟩; replace X := X.belowH hb; replace Z := Z.belowH hb; replace O := O.belowH hb; replace b := b.trans (hb.mono b.size); clear hb; clear x0 x1 x2; have x0 := X.at 0 rfl; have x1 := X.at 1 rfl; have x2 := X.at 2 rfl; have hl3 := O.lt; have R3' : Rd v3 v3.heap.size 1 A3 n3 (U (J.body ⟨q, g, s⟩)) := R3; have l3 := R3'.len1; rw [U_length] at l3)
    go_simp
    refine hK.out _ _ (by exact ⟨x0, x1, x2⟩) (fun hHeld3 => ?_)
    clear hK hHeld2 K
    try simp only [Act.put, sA, sB, sC]
    refine wpAnyH_ready (rs := [10]) (by kernel_rfl) (by simp) (AllReadyH.cons (o := ⟨some 19, _, _, _, _, _⟩) rfl (fun K hK => ?_) AllReadyH.nil)
    go_simp
    (refine (jseal_by A3 n3 c3 _ _ R3' (by omega)).mono ?_; rintro e v4 ⟨⟨A4, n4, c4, rfl, R4, hc4⟩, hb⟩; replace X := X.belowH hb; replace Z := Z.belowH hb; replace O := O.belowH hb; replace b := b.trans (hb.mono b.size); clear hb; clear x0 x1 x2; have x0 := X.at 0 rfl; have x1 := X.at 1 rfl; have x2 := X.at 2 rfl; clear R2 R3 R3' hc2 hc3 l2 l3 z1 z2; have e4 : S.sealed (J.body ⟨q, g, s⟩) = J.full ⟨q, g, s⟩ := rfl; rw [e4] at R4; clear e4; have l4 := R4.len1; rw [U_length] at l4; obtain ⟨bk, ok, rfl, hbk, hcl⟩ := R4.2 (by omega))
    go_simp
    refine hK.out _ _ (by exact ⟨x0, x1, x2⟩) (fun hHeld4 => ?_)
    clear hK hHeld3 K
    try simp only [Act.put, sA, sB, sC]
    refine wpAnyH_ready (rs := [11]) (by kernel_rfl) (by simp) (AllReadyH.cons (o := ⟨some 20, _, _, _, _, _⟩) rfl (fun K hK => ?_) AllReadyH.nil)
    (refine step_copy rfl (.tmp 9) (.tmp 19) 54 54 rfl 5 (by kernel_rfl) (by kernel_rfl) xb 0 64 64 ⟨bk, ok, none⟩ n4 c4 rfl rfl (U (J.full ⟨q, g, s⟩)) (by rw [U_length, l4]; exact (Nat.min_eq_left (by omega)).symm) (fun j v hv => by have hj : j < (U (J.full ⟨q, g, s⟩)).length := (List.getElem?_eq_some_iff.1 hv).1; rw [show (⟨bk, ok, none⟩ : Addr).add j = ⟨bk, ok + j, none⟩ by unfold Addr.add; split <;> simp_all]; rw [hcl j hj, hv]) (fun j hj => by rw [U_length] at hj; rw [Nat.zero_add]; exact box_some O (by rw [zero_len]; omega)) (fun j hj => O.cold _) (U_one _) ?_; have O2 := Box.setCells (w := v4) (U (J.full ⟨q, g, s⟩)) 0 v4 _ O; rw [laid_torn (by omega)] at O2; have Z2 := Box.apart (w := v4) (show w.heap.size + 1 ≠ xb by omega) (U (J.full ⟨q, g, s⟩)) 0 v4 Z; have X2 := Box.apart (w := v4) (show w.heap.size ≠ xb by omega) (U (J.full ⟨q, g, s⟩)) 0 v4 X; have b2 := below_setCells (show w.heap.size ≤ xb by omega) (U (J.full ⟨q, g, s⟩)) 0 v4 b; clear X Z O b x0 x1 x2 hc4 hcl R4; generalize v4.setCells xb 0 (U (J.full ⟨q, g, s⟩)) = v5 at *; have x0 := X2.at 0 rfl; have x1 := X2.at 1 rfl; have x2 := X2.at 2 rfl)
    go_simp
    refine hK.out _ _ (by exact ⟨x0, x1, x2⟩) (fun hHeld5 => ?_)
    clear hK hHeld4 K
    try simp only [Act.put, sA, sB, sC]
    refine wpAnyH_done (by kernel_rfl) ?_ _
    clear x0 x1 x2 hHeld5
    have hlt := torn_len2 (b := J.full ⟨q, g, s⟩) (k := (J.full ⟨q, g, s⟩).length) (Nat.le_refl _) (by omega)
    have h63 : 63 < (U (K.torn (J.full ⟨q, g, s⟩) (J.full ⟨q, g, s⟩).length)).length := by rw [U_length, hlt]; omega
    obtain ⟨tv, tx⟩ : ∃ tv, v5.cell? ⟨xb, 63, none⟩ = some tv := ⟨_, O2.at 63 (by rw [List.getElem?_toArray]; exact List.getElem?_eq_getElem h63)⟩
    have oc := O2.cold
    have O3 := boxU_byte O2 63 165
    have e165 : (((165 : UInt8).toNat : Nat) : Int) = 165 := rfl
    rw [torn_sec HM.out, e165] at O3
    have hsl : Hid ((J.sec ⟨q, g, s⟩).length = 64) := Lib.hid (J.sec_len HM.out)
    have Z3 := Z2.other (b' := xb) (o := 63) (by omega) (.int .u8 165)
    have HT := Lib.hid (Z3.bytes zero_len)
    have b3 := below_set (o := 63) b2 (show w.heap.size ≤ xb by omega) (.int .u8 165)
    clear e165 hlt h63 O2 Z2 X2 b2 l4 fl bl m1 m2 m3 m4 m5 hsz
    go_wp2_with (first | ((with_reducible refine sec_take _ xb 0 (J.sec ⟨q, g, s⟩) hsl.out (sec_box O3) ?hw ?hx ?_); (case hw => rfl); (case hx => rfl)) | ((with_reducible refine sec_put (w.heap.size + 1) 0 (J.sec ⟨q, g, s⟩) hsl.out HT.out ?hx ?hy ?_); (case hx => rfl); (case hy => rfl)) | with_reducible refine body_stop ?_)
    generalize v5.setCell ⟨xb, 63, none⟩ (.int .u8 165) = wz at *
    have LV : (loadVar 24 ⟨w.heap.size + 1, 0, none⟩).run Try.prog (wz.setCells (w.heap.size + 1) 0 (U (J.sec ⟨q, g, s⟩))) = .ok (.agg (U (J.sec ⟨q, g, s⟩)).toArray) (wz.setCells (w.heap.size + 1) 0 (U (J.sec ⟨q, g, s⟩))) :=
      run_loadVar_mid _ _ _ _ _ _ (World.rangeAt_setCells_same _ _ _ _ (by rw [U_length, hsl.out]; exact HT.out)) Try.underlying24 rfl (by rw [U_length, hsl.out]; rfl)
    refine Lib.hid (bodyPost_ret (v := .tuple #[.agg (U (J.sec ⟨q, g, s⟩)).toArray, .int .i64 0]) ?_ rfl ?_)
    · exact results_cell_tmp 2 24 3 Try.results9 _ rfl _ _ rfl LV
    · exact ⟨by rw [E0.out], below_setCells (by omega) _ _ _ b3⟩
  · have e0 : J.lay ⟨q, g, s⟩ = (K.zero, 1) := by unfold J.lay; rw [if_neg hm]
    rw [decide_eq_false hm]
    have E0 := Lib.hid e0
    have HT := Lib.hid (Z.bytes zero_len)
    clear hm e0
    go_wp2_with (first | with_reducible refine sec_zero _ ?_ | ((with_reducible refine sec_put (w.heap.size + 1) 0 K.zero zero_len HT.out ?hx ?hy ?_); (case hx => rfl); (case hy => rfl)) | with_reducible refine body_stop ?_)
    have LV : (loadVar 24 ⟨w.heap.size + 1, 0, none⟩).run Try.prog (w2.setCells (w.heap.size + 1) 0 (U K.zero)) = .ok (.agg (U K.zero).toArray) (w2.setCells (w.heap.size + 1) 0 (U K.zero)) :=
      run_loadVar_mid _ _ _ _ _ _ (World.rangeAt_setCells_same _ _ _ _ (by rw [U_length, zero_len]; exact HT.out)) Try.underlying24 rfl (by rw [U_length, zero_len]; rfl)
    refine Lib.hid (bodyPost_ret (v := .tuple #[.agg (U K.zero).toArray, .int .i64 1]) ?_ rfl ?_)
    · exact results_cell_tmp 2 24 3 Try.results9 _ rfl _ _ rfl LV
    · exact ⟨by rw [E0.out], below_setCells (by omega) _ _ _ b⟩
end Go.Proofs.Ytipccalbhlhljaa

