/- Package service: the key of a service, by the iterator. -/
import Derived.Test.YtfgpncbcelafoaaYC5
namespace Go.Proofs.Ytfgpncbcelafoaa
set_option linter.unusedVariables false
set_option linter.unusedSimpArgs false
open Go.RowKit Go.Shelf
attribute [local go_sem] Oper.semAt_some
theorem strB_bqY (a b : List UInt8) : (strB a == strB b) = decide (a = b) := by
  show (a.toArray == b.toArray) = _
  by_cases h : a = b
  · subst h; simp
  · rw [decide_eq_false h]; exact beq_eq_false_iff_ne.2 fun e => h (by simpa using e)
namespace Y
theorem fnd_no {n p : List UInt8} : ∀ {l : List (Int × Svc)}, (fnd n p l).2 = false → fnd n p l = (0, false)
  | [], _ => rfl
  | x :: r, h => by
    unfold fnd at h ⊢
    split
    · rename_i hx; rw [if_pos hx] at h; cases h
    · rename_i hx; rw [if_neg hx] at h; exact fnd_no h
theorem fnd_on {n p : List UInt8} : ∀ {a : List (Int × Svc)} (b : List (Int × Svc)), (fnd n p a).2 = false → fnd n p (a ++ b) = fnd n p b
  | [], b, _ => rfl
  | x :: r, b, h => by
    show (if x.2.name = n ∧ x.2.proto = p then (x.1, true) else fnd n p (r ++ b)) = _
    unfold fnd at h
    split
    · rename_i hx; rw [if_pos hx] at h; cases h
    · rename_i hx; rw [if_neg hx] at h; exact fnd_on b h
theorem fnd_at {n p : List UInt8} : ∀ {a : List (Int × Svc)} (b : List (Int × Svc)), (fnd n p a).2 = true → fnd n p (a ++ b) = fnd n p a
  | [], b, h => by cases h
  | x :: r, b, h => by
    show (if x.2.name = n ∧ x.2.proto = p then (x.1, true) else fnd n p (r ++ b)) = (if x.2.name = n ∧ x.2.proto = p then (x.1, true) else fnd n p r)
    unfold fnd at h
    split
    · rfl
    · rename_i hx; rw [if_neg hx] at h; exact fnd_at b h
theorem fnd_one {n p : List UInt8} {x : Int × Svc} (h : x.2.name = n ∧ x.2.proto = p) : fnd n p [x] = (x.1, true) := if_pos h
theorem fnd_none {n p : List UInt8} {x : Int × Svc} (h : ¬ (x.2.name = n ∧ x.2.proto = p)) : fnd n p [x] = (0, false) := if_neg h
end Y
set_option maxRecDepth 100000 in
set_option maxHeartbeats 4000000 in
theorem ykey_in (n : Nat) (hn : 6 ≤ n) (A : Option Addr) (len cap : Nat) (l : List Ent) (nm pr : List UInt8) (w : World) (h : Rd w w.heap.size 3 A len (EC l)) (hlen : len ≤ 1000000) (hv : ∀ x ∈ l, x.val.length ≤ 140737488351232) :
    CallsIn Fence.wide n Try.prog 17 #[.slice A len cap, .string (strB nm), .string (strB pr)] w fun e W' => e = .returned (.tuple #[.int .i64 (Y.fnd nm pr (Y.lst l)).1, .bool (Y.fnd nm pr (Y.lst l)).2]) ∧ Below w.heap.size w W' := by
  have h1 : 1 ≤ n := by omega
  refine callsIn_of_wp_marks Try.func17 rfl trivial ?_ rfl
  simp only [Try.ntmps17, List.size_toArray, List.length_cons, List.length_nil, Nat.reduceAdd, Nat.reduceSub, Array.replicate_succ, Array.replicate_zero, List.push_toArray, List.append_toArray, List.nil_append, List.cons_append]
  gi_wp2_with fail
  refine ⟨trivial, (yserv_in _ A len cap _).mono ?_⟩
  rintro _ w' ⟨rfl, rfl⟩
  gi_wp2_with fail
  have bN := ((((Boxed.new w 9 (.string (strB nm))).alloc (.cells #[.string (strB pr)] 9)).alloc (.cells #[.int .i64 0] 3)).alloc (.cells #[.bool false] 4)).alloc (.cells #[.slice A len cap] 33)
  have bP := (((Boxed.new (w.alloc (.cells #[.string (strB nm)] 9)) 9 (.string (strB pr))).alloc (.cells #[.int .i64 0] 3)).alloc (.cells #[.bool false] 4)).alloc (.cells #[.slice A len cap] 33)
  have bK := ((Boxed.new ((w.alloc (.cells #[.string (strB nm)] 9)).alloc (.cells #[.string (strB pr)] 9)) 3 (.int .i64 0)).alloc (.cells #[.bool false] 4)).alloc (.cells #[.slice A len cap] 33)
  have bF := (Boxed.new (((w.alloc (.cells #[.string (strB nm)] 9)).alloc (.cells #[.string (strB pr)] 9)).alloc (.cells #[.int .i64 0] 3)) 4 (.bool false)).alloc (.cells #[.slice A len cap] 33)
  have bA := Boxed.new ((((w.alloc (.cells #[.string (strB nm)] 9)).alloc (.cells #[.string (strB pr)] 9)).alloc (.cells #[.int .i64 0] 3)).alloc (.cells #[.bool false] 4)) 33 (.slice A len cap)
  have hB0 : Below w.heap.size w (((((w.alloc (.cells #[.string (strB nm)] 9)).alloc (.cells #[.string (strB pr)] 9)).alloc (.cells #[.int .i64 0] 3)).alloc (.cells #[.bool false] 4)).alloc (.cells #[.slice A len cap] 33)) := (((((Below.refl _ w).alloc (Nat.le_refl _) _).alloc (by simp) _).alloc (by simp; omega) _).alloc (by simp; omega) _).alloc (by simp; omega) _
  simp only [World.size_alloc] at bP bK bF bA
  have hsz : (((((w.alloc (.cells #[.string (strB nm)] 9)).alloc (.cells #[.string (strB pr)] 9)).alloc (.cells #[.int .i64 0] 3)).alloc (.cells #[.bool false] 4)).alloc (.cells #[.slice A len cap] 33)).heap.size = w.heap.size + 5 := by simp
  obtain ⟨W0, hW0⟩ : ∃ W0, (((((w.alloc (.cells #[.string (strB nm)] 9)).alloc (.cells #[.string (strB pr)] 9)).alloc (.cells #[.int .i64 0] 3)).alloc (.cells #[.bool false] 4)).alloc (.cells #[.slice A len cap] 33)) = W0 := ⟨_, rfl⟩
  rw [hW0] at bN bP bK bF bA hB0 hsz
  rw [hW0]
  clear hW0
  refine wpIn_rangeFunc_ownH rfl h1 (gf := 41) (lb := #[.pointer (some ⟨(w.heap.size + 1 + 1 + 1 + 1), 0, none⟩)]) rfl trivial (enters_of Try.func41 (by kernel_rfl) rfl)
    (yserv_stops (n - 1) (by omega) (w.heap.size + 1 + 1 + 1 + 1) w.heap.size A len cap l hlen hv W0 (by omega) (by omega) bA.cell (h.below hB0)) belowK_t (belowK_b (by omega)) (Below.refl _ _) (fun _ => rfl)
    (fun pre W => (Y.fnd nm pr pre).2 = false ∧ ((((Boxed W w.heap.size 9 (.string (strB nm)) ∧ Boxed W (w.heap.size + 1) 9 (.string (strB pr))) ∧ Boxed W (w.heap.size + 1 + 1) 3 (.int .i64 0)) ∧ Boxed W (w.heap.size + 1 + 1 + 1) 4 (.bool false)) ∧ Below w.heap.size w W))
    (fun c pre W => (c = .ret ∧ (Y.fnd nm pr pre).2 = true) ∧ ((Boxed W (w.heap.size + 1 + 1) 3 (.int .i64 (Y.fnd nm pr pre).1) ∧ Boxed W (w.heap.size + 1 + 1 + 1) 4 (.bool true)) ∧ Below w.heap.size w W))
    (OwnFrom.and (ownFrom_pure _ _) (OwnFrom.and (OwnFrom.and (OwnFrom.and (OwnFrom.and (Own.from (boxed_own _ _ _) _) (Own.from (boxed_own _ _ _) _)) (Own.from (boxed_own _ _ _) _)) (Own.from (boxed_own _ _ _) _)) (ownFrom_below (Nat.le_refl _) (by omega))))
    (fun c => OwnFrom.and (ownFrom_pure _ _) (OwnFrom.and (OwnFrom.and (Own.from (boxed_own _ _ (fun pre => .int .i64 (Y.fnd nm pr pre).1)) _) (Own.from (boxed_own _ _ _) _)) (ownFrom_below (Nat.le_refl _) (by omega))))
    ⟨rfl, ⟨⟨⟨bN, bP⟩, bK⟩, bF⟩, hB0⟩
    (fun x a' W => ∃ Bx, (w.heap.size + 1 + 1 + 1) < Bx ∧ Box W Bx 23 #[.string (strB x.2.name), .string (strB x.2.proto), .int .i64 x.2.port, .int .i64 x.2.prio, .int .i64 x.2.wt, .bool x.2.well] ∧ a' = { tmps := #[.slice A len cap, .string (strB nm), .string (strB pr), undef, .pointer (some ⟨w.heap.size, 0, none⟩), .pointer (some ⟨(w.heap.size + 1), 0, none⟩), .pointer (some ⟨(w.heap.size + 1 + 1), 0, none⟩), .pointer (some ⟨(w.heap.size + 1 + 1 + 1), 0, none⟩), .int .i64 x.1, .pointer (some ⟨Bx, 0, none⟩), .slice A len cap, .func (.func 41) #[] #[.pointer (some ⟨(w.heap.size + 1 + 1 + 1 + 1), 0, none⟩)], .int .i64 x.1, ysv x.2, undef, undef, undef, undef, undef, undef, undef, undef, undef, undef, undef], defers := [] })
    (fun x a' _ X Y row hs hg hr => by obtain ⟨Bx, h1, h2, h3⟩ := hs; exact ⟨Bx, h1, box_own Bx 23 (fun (_ : Unit) => #[.string (strB x.2.name), .string (strB x.2.proto), .int .i64 x.2.port, .int .i64 x.2.prio, .int .i64 x.2.wt, .bool x.2.well]) () X Y row h2 hg (fun r e => (hr r e).2), h3⟩)
    ?assign ?body ?done ?stop
  case assign =>
    rintro lp pre ⟨xk, xn, xp, x1, x2, x3, x4⟩ W K ⟨hf, ⟨⟨⟨bN, bP⟩, bK⟩, bF⟩, hB⟩ hK
    simp only [encsY, ysv]
    gi_wp2
    exact hK _ _ ((KeepsOthers.alloc _ _).from _) ((Below.refl _ W).alloc hB.size _) ⟨hf, ⟨⟨⟨bN.alloc _, bP.alloc _⟩, bK.alloc _⟩, bF.alloc _⟩, hB.alloc hB.size _⟩ ⟨W.heap.size, bF.lt, Box.new W _ _, rfl⟩
  case body =>
    rintro lp pre ⟨xk, xn, xp, p1, p2, p3, p4⟩ a' W hl ⟨r, hr⟩ ⟨hf, ⟨⟨⟨bN, bP⟩, bK⟩, bF⟩, hB⟩ ⟨Bx, hBx, bX, rfl⟩ hlt
    simp only at bX
    have x0 := bX.at 0 (v := .string (strB xn)) rfl
    have x1 := bX.at 1 (v := .string (strB xp)) rfl
    have cN := bN.cell
    have cP := bP.cell
    have cK := bK.cell
    have cF := bF.cell
    have fK := bK.frozen
    have fF := bF.frozen
    have HF := Lib.hid hf
    clear hf hr hl hlt
    by_cases e1 : xn = nm
    · have s1 : (strB xn == strB nm) = true := by rw [strB_bqY]; exact decide_eq_true e1
      have s1' : (xn == nm) = true := beq_iff_eq.2 e1
      by_cases e2 : xp = pr
      · have s2 : (strB xp == strB pr) = true := by rw [strB_bqY]; exact decide_eq_true e2
        have s2' : (xp == pr) = true := beq_iff_eq.2 e2
        have E : Hid (Y.fnd nm pr (pre ++ [(xk, ⟨xn, xp, p1, p2, p3, p4⟩)]) = (xk, true)) := Lib.hid (by rw [Y.fnd_on _ HF.out]; exact Y.fnd_one ⟨e1, e2⟩)
        clear e1 e2
        gi_wp2
        refine ⟨((KeepsOthers.setCell _ _ _).trans (KeepsOthers.setCell _ _ _)).from _, ⟨rfl, by rw [E.out]⟩, ⟨?_, ?_⟩, ?_⟩
        · rw [E.out]
          exact (bK.set (.int .i64 xk)).other (by omega) _
        · exact (bF.other (B' := (w.heap.size + 1 + 1)) (by omega) (.int .i64 xk)).set (.bool true)
        · exact (hB.setCell (p := ⟨(w.heap.size + 1 + 1), 0, none⟩) (by simp; omega) _).setCell (p := ⟨(w.heap.size + 1 + 1 + 1), 0, none⟩) (by simp; omega) _
      · have s2 : (strB xp == strB pr) = false := by rw [strB_bqY]; exact decide_eq_false e2
        have s2' : (xp == pr) = false := beq_eq_false_iff_ne.2 e2
        have E : Hid (Y.fnd nm pr (pre ++ [(xk, ⟨xn, xp, p1, p2, p3, p4⟩)]) = (0, false)) := Lib.hid (by rw [Y.fnd_on _ HF.out]; exact Y.fnd_none (fun h => e2 h.2))
        clear e1 e2
        gi_wp2
        exact ⟨(KeepsOthers.refl _).from _, Below.refl _ _, by rw [E.out], ⟨⟨⟨bN, bP⟩, bK⟩, bF⟩, hB⟩
    · have s1 : (strB xn == strB nm) = false := by rw [strB_bqY]; exact decide_eq_false e1
      have s1' : (xn == nm) = false := beq_eq_false_iff_ne.2 e1
      have E : Hid (Y.fnd nm pr (pre ++ [(xk, ⟨xn, xp, p1, p2, p3, p4⟩)]) = (0, false)) := Lib.hid (by rw [Y.fnd_on _ HF.out]; exact Y.fnd_none (fun h => e1 h.1))
      clear e1
      gi_wp2
      exact ⟨(KeepsOthers.refl _).from _, Below.refl _ _, by rw [E.out], ⟨⟨⟨bN, bP⟩, bK⟩, bF⟩, hB⟩
  case done =>
    rintro D ys W hD rfl ⟨hf, ⟨⟨⟨bN, bP⟩, bK⟩, bF⟩, hB⟩ hK
    have cK := bK.cell
    have cF := bF.cell
    have fK := bK.frozen
    have fF := bF.frozen
    have HF := Lib.hid (Y.fnd_no hf)
    clear hf
    gi_wp2
    have k2 := (bK.set (.int .i64 0)).other (B' := (w.heap.size + 1 + 1 + 1)) (by omega) (.bool false)
    have f2 := (bF.other (B' := (w.heap.size + 1 + 1)) (by omega) (.int .i64 0)).set (.bool false)
    have hK' := ((KeepsOthers.setCell W ⟨(w.heap.size + 1 + 1), 0, none⟩ (.int .i64 0)).trans (KeepsOthers.setCell _ ⟨(w.heap.size + 1 + 1 + 1), 0, none⟩ (.bool false))).same D _ hK rfl
    have hB2 : Below w.heap.size w ((W.setCell ⟨(w.heap.size + 1 + 1), 0, none⟩ (.int .i64 0)).setCell ⟨(w.heap.size + 1 + 1 + 1), 0, none⟩ (.bool false)) := (hB.setCell (p := ⟨(w.heap.size + 1 + 1), 0, none⟩) (by simp; omega) _).setCell (p := ⟨(w.heap.size + 1 + 1 + 1), 0, none⟩) (by simp; omega) _
    refine ⟨by simp, .inl ⟨_, _, rfl, run_takeDeferred hK', ?_⟩⟩
    have c5 := cell_kept k2.cell (grownBy_putObj' _ D (.deferred none)) (fun r e => by cases e; exact ⟨_, hK', rfl⟩)
    have c6 := cell_kept f2.cell (grownBy_putObj' _ D (.deferred none)) (fun r e => by cases e; exact ⟨_, hK', rfl⟩)
    refine ⟨.tuple #[.int .i64 0, .bool false], ?_, by rw [HF.out], hB2.trans (belowK_b (w := w) (Nat.le_refl _) _ D _ _ (by omega) hK' rfl rfl)⟩
    simp [results, Try.f17, go_sem, c5, c6]
  case stop =>
    rintro D c pre W hD hpre ⟨⟨rfl, hf⟩, ⟨bK, bF⟩, hB⟩ hK
    have HF : Hid (Y.fnd nm pr (Y.lst l) = ((Y.fnd nm pr pre).1, true)) := Lib.hid (by obtain ⟨t, e⟩ := hpre; rw [← e, Y.fnd_at t hf, ← hf])
    clear hf hpre
    gi_wp2
    refine ⟨by simp, .inl ⟨_, _, rfl, run_takeDeferred hK, ?_⟩⟩
    have c5 := cell_kept bK.cell (grownBy_putObj' _ D (.deferred none)) (fun r e => by cases e; exact ⟨_, hK, rfl⟩)
    have c6 := cell_kept bF.cell (grownBy_putObj' _ D (.deferred none)) (fun r e => by cases e; exact ⟨_, hK, rfl⟩)
    refine ⟨.tuple #[.int .i64 (Y.fnd nm pr pre).1, .bool true], ?_, by rw [HF.out], hB.trans (belowK_b (w := w) (Nat.le_refl _) _ D _ _ (by omega) hK rfl rfl)⟩
    simp [results, Try.f17, go_sem, c5, c6]
theorem ykey_any (l : List Ent) (nm pr : List UInt8) (A : Option Addr) (n c : Nat) (w : World) (h : Rd w w.heap.size 3 A n (EC l)) (hn : n ≤ 1000000) (hv : ∀ x ∈ l, x.val.length ≤ 140737488351232) (hw : nm.length ≤ 140737488351232 ∧ pr.length ≤ 140737488351232) :
    Calls Try.prog 17 #[.slice A n c, .string (strB nm), .string (strB pr)] w (KeyR (Y.key nm pr l) w) := by
  refine ((callsIn_wide (n := 6)).1 (ykey_in 6 (by omega) A n c l nm pr w h hn hv)).mono ?_
  rintro e w' ⟨rfl, hb⟩
  exact ⟨by rw [Y.key_fnd], hb⟩
end Go.Proofs.Ytfgpncbcelafoaa
