/- KRef2 (merged). -/
import Derived.Test.YtipccalbhlhljaaJKRef
namespace Go.Proofs.Ytipccalbhlhljaa
set_option linter.unusedVariables false
set_option linter.unusedSimpArgs false
open Go.RowKit
theorem sec_in (xs ys : List UInt8) (hx : xs.length = 64) (hy : ys.length = 64) (w : World) :
    (Op.equalIn 10000 24 (.agg (U xs).toArray) (.agg (U ys).toArray)).run Try.prog w = .ok (xs == ys) w :=
  run_equalIn_bytes w 9998 24 5 64 Try.underlying24 Try.underlying5 (fun w => by simp [Try.sizeOf5]) xs ys hx hy
theorem sec_load (w : World) (b o : Nat) (s : List UInt8) (hs : s.length = 64) (h : ∀ j v, (U s)[j]? = some v → w.cell? ⟨b, o + j, none⟩ = some v) :
    (Instr.loadAt 24 (.pointer (some ⟨b, o, none⟩))).run Try.prog w = .ok (.agg (U s).toArray) w :=
  run_loadAt_mid w b o 24 (U s) _ h Try.underlying24 rfl (by rw [U_length, hs]; rfl)
theorem kdrewN {B : Nat} {w w' : World} (h : Below B w w') (q : Nat) : Below B w (w'.drewN q) := ⟨h.os, h.tape, h.output, h.size, h.block⟩
/-- a whole array out of the midst of a block, in a region that reads alone -/
theorem quiet_load {P : Program} {ops : Array Oper} {C : World → Prop} {Q : Act → Prop} {a : Act} {o : Oper} {rest : List Oper} (ty : TypeId) (x : Operand) (v w : Value)
    (hl : ∀ w', C w' → (Instr.loadAt ty v).run P w' = .ok w w') (hw : Region.wanted o (yielded ops a.tmps) = true) (ho : o.op = .load ty x) (hx : a.eval x = v)
    (h : wpQuiet P ops C Q rest (a.put o.dst w)) : wpQuiet P ops C Q (o :: rest) a :=
  BigFrame.wpQuiet_want hw fun K hK => ⟨w, fun w' hc => by
    unfold Oper.quietAt execOp
    simp only [ho, hx, Sem.run_bind, hl w' hc, Result.andThen_ok, Sem.run_pure]
    exact ⟨rfl, rfl⟩, hK _ h⟩
set_option maxHeartbeats 2000000 in
set_option maxRecDepth 20000 in
theorem rksame_any (u v : Kv) (w : World) (h : KRd w u) (h' : KRd w v) (hn : u.n ≤ 1000) :
    Calls Try.prog 22 #[kval u, kval v] w (BoolK (decide (u.x = v.x)) w) := by
  have hlen := h.len
  have hlen' := h'.len
  obtain ⟨⟨l, f, o⟩, A, n, c⟩ := u
  obtain ⟨⟨l', f', o'⟩, A', n', c'⟩ := v
  obtain ⟨h, hw, hc, hm⟩ := h
  obtain ⟨h', hw', hc', hm'⟩ := h'
  simp only [K.wf] at hlen hlen' h h' hw hw' hn hc hc' hm hm'
  simp only [kval]
  have b := ((Below.refl w.heap.size w).alloc (Nat.le_refl _) (.cells #[.slice A n c, .int .i64 f, .bool o] 34)).alloc (by simp) (.cells #[.slice A' n' c', .int .i64 f', .bool o'] 34)
  have X := (Box.new w #[.slice A n c, .int .i64 f, .bool o] 34).below ((Below.refl _ _).alloc (Nat.le_refl _) (.cells #[.slice A' n' c', .int .i64 f', .bool o'] 34)) (by simp)
  have Y := Box.new (w.alloc (.cells #[.slice A n c, .int .i64 f, .bool o] 34)) #[.slice A' n' c', .int .i64 f', .bool o'] 34
  replace h := h.below b
  replace h' := h'.below b
  have eb : (w.alloc (.cells #[.slice A n c, .int .i64 f, .bool o] 34)).heap.size = w.heap.size + 1 := by simp
  rw [eb] at Y
  have HL := Lib.hid hlen
  have HL' := Lib.hid hlen'
  have HW := Lib.hid hw
  have HW' := Lib.hid hw'
  have HR := Lib.hid h
  have HR' := Lib.hid h'
  clear hlen hlen' hw hw' h h'
  by_cases hnn : n = n'
  · subst hnn
    go_enter Try.func22, Try.ntmps22
    go_wp2
    generalize ((w.alloc (.cells #[.slice A n c, .int .i64 f, .bool o] 34)).alloc (.cells #[.slice A' n c', .int .i64 f', .bool o'] 34)) = w1 at *
    have x0 := X.at 0 rfl
    have x1 := X.at 1 rfl
    have x2 := X.at 2 rfl
    have y0 := Y.at 0 rfl
    have y1 := Y.at 1 rfl
    have y2 := Y.at 2 rfl
    go_loopw [5] (fun i wr => ∃ k q : Nat, k ≤ n ∧ i = .int .i64 k ∧ l.take k = l'.take k ∧ wr = w1.drewN q) (fun i _ => n - (intOf i).toNat)
    case atStart => exact ⟨0, 0, by omega, rfl, rfl, rfl⟩
    case round =>
      obtain ⟨k, q, hk, rfl, hno, rfl⟩ := hrel
      have HN := Lib.hid hno
      clear hno
      by_cases hlt : k < n
      · obtain ⟨bk, ok, s, rfl, hb, hx, h64, hcell⟩ := HR.out.atS HW.out HL.out hlt
        obtain ⟨bk', ok', s', rfl, hb', hx', h64', hcell'⟩ := HR'.out.atS HW'.out HL'.out hlt
        have L1 := fun q m : Nat => sec_load ((w1.drewN q).drewN m) bk (ok + k * 64) s h64 hcell
        have L2 := fun q m : Nat => sec_load ((w1.drewN q).drewN m) bk' (ok' + k * 64) s' h64' hcell'
        have EQ := sec_in s s' h64 h64'
        have HX := Lib.hid hx
        have HX' := Lib.hid hx'
        clear hx hx' hcell hcell' h64 h64'
        have hk0 : (0 : Int) ≤ (k : Int) := by omega
        by_cases hxy : s = s'
        · subst hxy
          go_wp2
          refine wp_region_quiet_lit (by kernel_rfl) (by kernel_rfl) ?_
          repeat (go_big_quiet_step (fail))
          refine quiet_load _ _ _ _ (fun w' hc => by obtain ⟨m, rfl⟩ := hc; exact L1 q m) rfl rfl rfl ?_
          simp only [Act.put, sA, sB, sC]
          repeat (go_big_quiet_step (fail))
          refine quiet_load _ _ _ _ (fun w' hc => by obtain ⟨m, rfl⟩ := hc; exact L2 q m) rfl rfl rfl ?_
          simp only [Act.put, sA, sB, sC]
          repeat (go_big_quiet_step (fail))
          refine wpQuiet_nil ?_
          intro _ hw'
          obtain ⟨nq, rfl⟩ := hw'
          go_wp2
          go_roundw
          case rel => exact ⟨k + 1, q + nq, by omega, by go_num, by rw [take_more HX.out, take_more HX'.out, HN.out], by simp⟩
          case measure => simp [intOf]; omega
        · have hne : l ≠ l' := fun e => by
            have h1 := HX.out
            rw [e, HX'.out] at h1
            injection h1 with h1
            exact hxy h1.symm
          have HNE := Lib.hid hne
          have t1 : (s == s') = false := beq_eq_false_iff_ne.2 hxy
          clear hne hxy
          go_wp2
          refine wp_region_quiet_lit (by kernel_rfl) (by kernel_rfl) ?_
          repeat (go_big_quiet_step (fail))
          refine quiet_load _ _ _ _ (fun w' hc => by obtain ⟨m, rfl⟩ := hc; exact L1 q m) rfl rfl rfl ?_
          simp only [Act.put, sA, sB, sC]
          repeat (go_big_quiet_step (fail))
          refine quiet_load _ _ _ _ (fun w' hc => by obtain ⟨m, rfl⟩ := hc; exact L2 q m) rfl rfl rfl ?_
          simp only [Act.put, sA, sB, sC]
          repeat (go_big_quiet_step (fail))
          refine wpQuiet_nil ?_
          intro _ hw'
          obtain ⟨nq, rfl⟩ := hw'
          go_wp2
          go_ret
          exact ⟨ret_bool (decide_eq_false fun e => HNE.out (congrArg Dk.secs e)).symm, kdrewN (kdrewN b _) _⟩
      · have he : l = l' := by
          have h1 := HN.out
          rwa [List.take_of_length_le (by have := HL.out; omega), List.take_of_length_le (by have := HL'.out; omega)] at h1
        subst he
        have fin : ∀ v : Bool, (v = true ↔ f = f' ∧ o = o') → BoolK (decide ((⟨l, f, o⟩ : Dk) = ⟨l, f', o'⟩)) w (.returned (.bool v)) (w1.drewN q) := fun v hv => by
          refine ⟨ret_bool ?_, kdrewN b _⟩
          rw [Bool.eq_iff_iff, hv, decide_eq_true_iff]
          simp
        have FIN := Lib.hid fin
        clear fin
        by_cases ef : f = f'
        · subst ef
          cases o <;> cases o'
          all_goals go_wp2
          all_goals go_ret
          all_goals first | exact FIN.out true (by simp) | exact FIN.out false (by simp) | exact ⟨rfl, kdrewN b _⟩
        · have t1 : (f == f') = false := beq_eq_false_iff_ne.2 ef
          go_wp2
          all_goals go_ret
          all_goals first | exact FIN.out false (by simp [ef]) | exact FIN.out _ (by simp [ef]) | exact ⟨rfl, kdrewN b _⟩
  · have t1 : ((n : Int) != (n' : Int)) = true := by rw [bne_iff_ne]; omega
    have hne : l ≠ l' := fun e => by
      have h1 := HL.out
      rw [e, HL'.out] at h1
      exact hnn h1.symm
    have HNE := Lib.hid hne
    clear hne hnn
    go_enter Try.func22, Try.ntmps22
    go_wp2
    go_ret
    exact ⟨ret_bool (decide_eq_false fun e => HNE.out (congrArg Dk.secs e)).symm, b⟩
end Go.Proofs.Ytipccalbhlhljaa

