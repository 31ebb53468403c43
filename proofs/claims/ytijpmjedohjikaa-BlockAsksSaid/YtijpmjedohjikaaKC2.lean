/- Package block: two disks held against one another; a sector. -/
import Derived.Test.YtijpmjedohjikaaKC1
import Derived.Lib.SliceRun
import Derived.Laws.Slices
namespace Go.Proofs.Ytijpmjedohjikaa
set_option linter.unusedVariables false
set_option linter.unusedSimpArgs false
open Go.RowKit
/-- the end of a sector, changed -/
theorem S_tail {l : List (List UInt8)} (hl : ∀ s ∈ l, s.length = 64) {k j : Nat} {s v : List UInt8} (hs : l[k]? = some s) (hj : j < 64) (hv : v.length = 64 - j) : laid (S l) (k * 64 + j) (U v) = S (l.set k (s.take j ++ v)) := by
  have h64 := hl s (List.mem_of_getElem? hs)
  have hk : k < l.length := (List.getElem?_eq_some_iff.1 hs).1
  have h64' : (s.take j ++ v).length = 64 := by rw [List.length_append, List.length_take, h64, hv]; omega
  have hU : (U v).length = 64 - j := by rw [U_length, hv]
  have hS := S_length l hl
  refine S_ext (m := l.length) (by rw [laid_length, hS]) (by rw [S_length _ (set_all hl h64'), List.length_set]) fun q r hq hr => ?_
  rw [S_set_get hl h64' hk hq hr]
  by_cases e : q = k
  · subst e
    rw [if_pos rfl, U_get]
    by_cases hrj : r < j
    · rw [laid_out _ _ _ _ (by omega), S_at l hl hs r hr, U_get, List.getElem?_append_left (by rw [List.length_take, h64]; omega), List.getElem?_take, if_pos hrj]
    · obtain ⟨d, rfl⟩ : ∃ d, r = j + d := ⟨r - j, by omega⟩
      rw [show q * 64 + (j + d) = q * 64 + j + d by omega, laid_in _ _ _ _ (by omega) (by omega), U_get, List.getElem?_append_right (by rw [List.length_take]; omega), List.length_take, h64, show j + d - min j 64 = d by omega]
  · rw [if_neg e, laid_out _ _ _ _ (by omega)]
theorem own_tail {base n cap g : Nat} {e : TypeId} {w : World} {l : List (List UInt8)} (h : w.ownsRow base e 64 (.slice (some ⟨g, 0, none⟩) n cap) n (S l)) (hl : ∀ s ∈ l, s.length = 64) {k j : Nat} {s : List UInt8} (hs : l[k]? = some s) (hj : j < 64) :
    (w.setCells g (k * 64 + j) (List.replicate (64 - j) (.int .u8 0))).ownsRow base e 64 (.slice (some ⟨g, 0, none⟩) n cap) n (S (l.set k (K.torn s j))) := by
  have e0 : List.replicate (64 - j) (Value.int .u8 0) = U (List.replicate (64 - j) 0) := by simp [U]
  rw [e0]
  unfold K.torn
  rw [← S_tail hl hs hj (v := List.replicate (64 - j) 0) (by simp)]
  exact own_laid _ _ _ _ h
theorem run_tail (w : World) (g k j : Nat) (hj : j < 64) : (Instr.sliceAt 26 (.pointer (some ⟨g, k * 64, none⟩)) (some (.int .i64 (j : Int))) none none).run Try.prog w = .ok (.slice (some ⟨g, k * 64 + j, none⟩) (64 - j) (64 - j)) w := by
  have hA : Try.prog.arrayLen 26 = 64 := by kernel_rfl
  have hE : Try.prog.elem 26 = 5 := by kernel_rfl
  rw [run_sliceAt_array_l w 26 ⟨g, k * 64, none⟩ (by rw [hA, hE]; exact Try.underlying26) .i64 (j : Int) (by omega) (by rw [hA]; omega), hA, hE]
  have hz : (sizeOf 5).run Try.prog w = .ok 1 w := by simp [Try.sizeOf5]
  rw [hz]
  simp only [Result.andThen_ok, slicedAt, Int.toNat_natCast]
  rw [if_neg (by omega)]
  simp [Addr.add]

set_option maxHeartbeats 2000000 in
set_option maxRecDepth 20000 in
theorem kequal_any (l l' : List (List UInt8)) (HW : Hid (∀ s ∈ l, s.length = 64)) (HW' : Hid (∀ s ∈ l', s.length = 64)) (A A' : Option Addr) (n c n' c' : Nat) (HL : Hid (l.length = n)) (HL' : Hid (l'.length = n')) (w : World) (HR : Hid (Rd w w.heap.size 64 A n (S l))) (HR' : Hid (Rd w w.heap.size 64 A' n' (S l'))) (hn : n ≤ 1000) :
    Calls Try.prog 29 #[.slice A n c, .slice A' n' c'] w fun e w' => e = .returned (.bool (decide (l = l'))) ∧ ∃ q, w' = w.drewN q := by
  by_cases hnn : n = n'
  · subst hnn
    go_enter Try.func29, Try.ntmps29
    go_wp2
    go_loopw [13] (fun i wr => ∃ k q : Nat, k ≤ n ∧ i = .int .i64 k ∧ l.take k = l'.take k ∧ wr = w.drewN q) (fun i _ => n - (intOf i).toNat)
    case atStart => exact ⟨0, 0, by omega, rfl, rfl, rfl⟩
    case round =>
      obtain ⟨k, q, hk, rfl, hno, rfl⟩ := hrel
      have HN := Lib.hid hno
      clear hno
      by_cases hlt : k < n
      · obtain ⟨bk, ok, s, rfl, hb, hx, h64, hcell⟩ := HR.out.atS HW.out HL.out hlt
        obtain ⟨bk', ok', s', rfl, hb', hx', h64', hcell'⟩ := HR'.out.atS HW'.out HL'.out hlt
        have L1 := fun q m : Nat => sec_load ((w.drewN q).drewN m) bk (ok + k * 64) s h64 hcell
        have L2 := fun q m : Nat => sec_load ((w.drewN q).drewN m) bk' (ok' + k * 64) s' h64' hcell'
        have EQ := sec_in s s' h64 h64'
        have HX := Lib.hid hx
        have HX' := Lib.hid hx'
        clear hx hx' hcell hcell' h64 h64'
        have hk0 : (0 : Int) ≤ (k : Int) := by omega
        by_cases hxy : s = s'
        · subst hxy
          go_wp2
          refine wp_region_quiet_lit (by kernel_rfl) (by kernel_rfl) ?_
          repeat (go_big_quiet_step (fail))
          refine quiet_load _ _ _ _ (fun w' hc => by obtain ⟨m, rfl⟩ := hc; exact L1 q m) rfl rfl rfl ?_
          simp only [Act.put, sA, sB, sC]
          repeat (go_big_quiet_step (fail))
          refine quiet_load _ _ _ _ (fun w' hc => by obtain ⟨m, rfl⟩ := hc; exact L2 q m) rfl rfl rfl ?_
          simp only [Act.put, sA, sB, sC]
          repeat (go_big_quiet_step (fail))
          refine wpQuiet_nil ?_
          intro _ hw'
          obtain ⟨nq, rfl⟩ := hw'
          go_wp2
          go_roundw
          case rel => exact ⟨k + 1, q + nq, by omega, by go_num, by rw [take_more HX.out, take_more HX'.out, HN.out], by simp⟩
          case measure => simp [intOf]; omega
        · have hne : l ≠ l' := fun e => by
            have h1 := HX.out
            rw [e, HX'.out] at h1
            injection h1 with h1
            exact hxy h1.symm
          have HNE := Lib.hid hne
          have t1 : (s == s') = false := beq_eq_false_iff_ne.2 hxy
          clear hne hxy
          go_wp2
          refine wp_region_quiet_lit (by kernel_rfl) (by kernel_rfl) ?_
          repeat (go_big_quiet_step (fail))
          refine quiet_load _ _ _ _ (fun w' hc => by obtain ⟨m, rfl⟩ := hc; exact L1 q m) rfl rfl rfl ?_
          simp only [Act.put, sA, sB, sC]
          repeat (go_big_quiet_step (fail))
          refine quiet_load _ _ _ _ (fun w' hc => by obtain ⟨m, rfl⟩ := hc; exact L2 q m) rfl rfl rfl ?_
          simp only [Act.put, sA, sB, sC]
          repeat (go_big_quiet_step (fail))
          refine wpQuiet_nil ?_
          intro _ hw'
          obtain ⟨nq, rfl⟩ := hw'
          go_wp2
          go_ret
          exact ⟨ret_bool (decide_eq_false HNE.out).symm, q + nq, by simp⟩
      · have he : l = l' := by
          have h1 := HN.out
          rwa [List.take_of_length_le (by have := HL.out; omega), List.take_of_length_le (by have := HL'.out; omega)] at h1
        have HE := Lib.hid he
        clear he
        go_wp2
        go_ret
        exact ⟨ret_bool (decide_eq_true HE.out).symm, q, rfl⟩
  · have t1 : ((n : Int) != (n' : Int)) = true := by rw [bne_iff_ne]; omega
    have hne : l ≠ l' := fun e => by
      have h1 := HL.out
      rw [e, HL'.out] at h1
      exact hnn h1.symm
    have HNE := Lib.hid hne
    clear hne hnn
    go_enter Try.func29, Try.ntmps29
    go_wp2
    go_ret
    exact ⟨ret_bool (decide_eq_false HNE.out).symm, 0, rfl⟩

set_option maxHeartbeats 2000000 in
theorem ksame_any (u v : Kv) (w : World) (h : KRd w u) (h' : KRd w v) (hn : u.n ≤ 1000) :
    Calls Try.prog 21 #[kval u, kval v] w (BoolK (decide (u.x = v.x)) w) := by
  have hlen := h.len
  have hlen' := h'.len
  obtain ⟨⟨l, f, o⟩, A, n, c⟩ := u
  obtain ⟨⟨l', f', o'⟩, A', n', c'⟩ := v
  obtain ⟨h, hw, hc, hm⟩ := h
  obtain ⟨h', hw', hc', hm'⟩ := h'
  simp only [K.wf] at hlen hlen' h h' hw hw' hn hc hc' hm hm'
  simp only [kval]
  have b := ((Below.refl w.heap.size w).alloc (Nat.le_refl _) (.cells #[.slice A n c, .int .i64 f, .bool o] 24)).alloc (by simp) (.cells #[.slice A' n' c', .int .i64 f', .bool o'] 24)
  have X := (Box.new w #[.slice A n c, .int .i64 f, .bool o] 24).below ((Below.refl _ _).alloc (Nat.le_refl _) (.cells #[.slice A' n' c', .int .i64 f', .bool o'] 24)) (by simp)
  have Y := Box.new (w.alloc (.cells #[.slice A n c, .int .i64 f, .bool o] 24)) #[.slice A' n' c', .int .i64 f', .bool o'] 24
  have HR := Lib.hid (h.belowH b)
  have HR' := Lib.hid (h'.belowH b)
  have eb : (w.alloc (.cells #[.slice A n c, .int .i64 f, .bool o] 24)).heap.size = w.heap.size + 1 := by simp
  rw [eb] at Y
  have HL := Lib.hid hlen
  have HL' := Lib.hid hlen'
  have HW := Lib.hid hw
  have HW' := Lib.hid hw'
  clear hlen hlen' hw hw' h h' eb
  go_enter Try.func21, Try.ntmps21
  have x0 := X.at 0 rfl
  have y0 := Y.at 0 rfl
  go_wp2_with fail
  generalize ((w.alloc (.cells #[.slice A n c, .int .i64 f, .bool o] 24)).alloc (.cells #[.slice A' n' c', .int .i64 f', .bool o'] 24)) = w1 at *
  refine (kequal_any l l' HW HW' A A' n c n' c' HL HL' w1 HR HR' hn).mono ?_
  rintro _ w2 ⟨rfl, q, rfl⟩
  clear HR HR' x0 y0
  have x1 := (X.drewN q).at 1 rfl
  have x2 := (X.drewN q).at 2 rfl
  have y1 := (Y.drewN q).at 1 rfl
  have y2 := (Y.drewN q).at 2 rfl
  replace b := kdrewN b q
  clear X Y
  generalize w1.drewN q = w2 at *
  by_cases hll : l = l'
  · subst hll
    have fin : ∀ v : Bool, (v = true ↔ f = f' ∧ o = o') → BoolK (decide ((⟨l, f, o⟩ : Dk) = ⟨l, f', o'⟩)) w (.returned (.bool v)) w2 := fun v hv => by
      refine ⟨ret_bool ?_, b⟩
      rw [Bool.eq_iff_iff, hv, decide_eq_true_iff]
      simp
    have FIN := Lib.hid fin
    clear fin
    have t1 : decide (l = l) = true := decide_eq_true rfl
    rw [t1]
    clear t1
    by_cases ef : f = f'
    · subst ef
      cases o <;> cases o'
      all_goals go_wp2
      all_goals go_ret
      all_goals first | exact FIN.out true (by simp) | exact FIN.out false (by simp) | exact ⟨rfl, b⟩
    · have t2 : (f == f') = false := beq_eq_false_iff_ne.2 ef
      go_wp2
      all_goals go_ret
      all_goals first | exact FIN.out false (by simp [ef]) | exact FIN.out _ (by simp [ef])
  · have t1 : decide (l = l') = false := decide_eq_false hll
    have HNE : Hid (decide ((⟨l, f, o⟩ : Dk) = ⟨l', f', o'⟩) = false) := Lib.hid (decide_eq_false fun e => hll (congrArg Dk.secs e))
    rw [t1]
    clear hll t1
    go_wp2
    all_goals go_ret
    all_goals exact ⟨ret_bool HNE.out.symm, b⟩

set_option maxHeartbeats 400000 in
set_option maxRecDepth 20000 in
theorem kget_any (u : Kv) (i : Int) (w : World) (h : KRd w u) :
    Calls Try.prog 12 #[kval u, .int .i64 i] w (SecR (K.get u.x i) (K.asked u.x i) w) := by
  have hlen := h.len
  obtain ⟨⟨l, f, o⟩, A, n, c⟩ := u
  simp only at hlen
  simp only [kval]
  go_enter Try.func12, Try.ntmps12
  go_wp2_with fail
  have hR : KRd ((w.alloc (.cells #[.slice A n c, .int .i64 f, .bool o] 24)).alloc (.cells (U K.zero).toArray 26)) ⟨⟨l, f, o⟩, A, n, c⟩ := (h.alloc _).alloc _
  have X : Box ((w.alloc (.cells #[.slice A n c, .int .i64 f, .bool o] 24)).alloc (.cells (U K.zero).toArray 26)) w.heap.size 24 #[.slice A n c, .int .i64 f, .bool o] := (Box.new w _ _).below ((Below.refl _ _).alloc (Nat.le_refl _) _) (by simp)
  have Z : Box ((w.alloc (.cells #[.slice A n c, .int .i64 f, .bool o] 24)).alloc (.cells (U K.zero).toArray 26)) (w.heap.size + 1) 26 (U K.zero).toArray := by
    have := Box.new (w.alloc (.cells #[.slice A n c, .int .i64 f, .bool o] 24)) (U K.zero).toArray 26
    simpa using this
  have b := ((Below.refl w.heap.size w).alloc (Nat.le_refl _) (.cells #[.slice A n c, .int .i64 f, .bool o] 24)).alloc (by simp) (.cells (U K.zero).toArray 26)
  refine (kreach_any ⟨⟨l, f, o⟩, A, n, c⟩ i _ hR).mono ?_
  rintro _ w2 ⟨rfl, b2⟩
  replace hR := hR.belowH b2
  replace X := X.below b2 (by simp; omega)
  replace Z := Z.below b2 (by simp)
  replace b := b.trans (b2.mono b.size)
  clear b2
  have y0 := X.at 0 rfl
  have HR := Lib.hid hR
  have HL := Lib.hid hlen
  clear h hR hlen
  have HT : Hid (w2.there (w.heap.size + 1) 0 64) := Lib.hid (by have h1 := Z.there; have e : (U K.zero).toArray.size = 64 := (by rw [List.size_toArray, U_length, zero_len]); rw [e] at h1; exact h1)
  by_cases h0 : K.asked ⟨l, f, o⟩ i = 0
  · obtain ⟨r, hd, i0, i1⟩ := K.asked_right h0
    rw [h0]
    obtain ⟨k, rfl⟩ := Int.eq_ofNat_of_zero_le i0
    have hk : k < n := by have := HL.out; simp at i1; omega
    obtain ⟨bk, ok, s, rfl, hb, hx, h64, hcell⟩ := HR.out.1.atS HR.out.2.1 HL.out hk
    have e : K.get ⟨l, f, o⟩ k = s := by unfold K.get; rw [if_pos h0]; simp [List.getD, hx]
    have E := Lib.hid e
    have H0 := Lib.hid h0
    have L64 : (U s).length = 64 := by rw [U_length, h64]
    have SC := sec_cells (P := Try.prog) w2 (w.heap.size + 1) s h64 HT.out
    have HC : Hid (w2.rangeAt bk (ok + k * 64) (U s)) := Lib.hid hcell
    have H64 := Lib.hid h64
    clear i0 i1 hcell r hd hx e h0 h64
    have hk0 : (0 : Int) ≤ (k : Int) := by omega
    go_wp2_with (first | ((with_reducible refine sec_got _ bk (ok + k * 64) s H64.out HC.out ?hx ?_); (case hx => rfl)) | with_reducible refine body_stop ?_)
    have LV : (loadVar 26 ⟨w.heap.size + 1, 0, none⟩).run Try.prog (w2.setCells (w.heap.size + 1) 0 (U s)) = .ok (.agg (U s).toArray) (w2.setCells (w.heap.size + 1) 0 (U s)) :=
      run_loadVar_mid _ _ _ _ _ _ (World.rangeAt_setCells_same _ _ _ _ (by rw [U_length, H64.out]; exact HT.out)) Try.underlying26 rfl (by rw [U_length, H64.out]; rfl)
    refine Lib.hid (bodyPost_ret (v := .tuple #[.agg (U s).toArray, .int .i64 0]) ?_ rfl ?_)
    · exact results_cell_tmp 4 26 5 Try.results12 _ rfl _ _ rfl LV
    · refine ⟨by rw [E.out, H0.out], ?_⟩
      exact below_setCells (by omega) _ _ _ b
  · have t1 : (K.asked ⟨l, f, o⟩ i != 0) = true := bne_iff_ne.2 h0
    have SC := sec_cells (P := Try.prog) w2 (w.heap.size + 1) K.zero zero_len HT.out
    go_wp2_with (first | with_reducible refine sec_zero _ ?_ | with_reducible refine body_stop ?_)
    have LV : (loadVar 26 ⟨w.heap.size + 1, 0, none⟩).run Try.prog (w2.setCells (w.heap.size + 1) 0 (U K.zero)) = .ok (.agg (U K.zero).toArray) (w2.setCells (w.heap.size + 1) 0 (U K.zero)) :=
      run_loadVar_mid _ _ _ _ _ _ (World.rangeAt_setCells_same _ _ _ _ (by rw [U_length, zero_len]; exact HT.out)) Try.underlying26 rfl (by rw [U_length, zero_len]; rfl)
    refine Lib.hid (bodyPost_ret (v := .tuple #[.agg (U K.zero).toArray, .int .i64 (K.asked ⟨l, f, o⟩ i)]) ?_ rfl ?_)
    · exact results_cell_tmp 4 26 5 Try.results12 _ rfl _ _ rfl LV
    · have e : K.get ⟨l, f, o⟩ i = K.zero := by unfold K.get; rw [if_neg h0]
      rw [e]
      refine ⟨rfl, ?_⟩
      exact below_setCells (by omega) _ _ _ b
end Go.Proofs.Ytijpmjedohjikaa
