/- Package label: the name of labels that come one by one. -/
import Derived.Test.YtillnjhmdgmgeaaDoorBC3
import Derived.Lib.AppendStr
namespace Go.Proofs.YtillnjhmdgmgeaaDoor
set_option linter.unusedVariables false
set_option linter.unusedSimpArgs false
open Go.RowKit Go.Shelf
attribute [local go_sem] Oper.semAt_some
namespace Lab
/-- one label more: the bytes that are kept, and whether all is too long -/
def stp (s : List UInt8 × Bool) (x : List UInt8) : List UInt8 × Bool :=
  if (s.2 || decide (63 < x.length) || decide (255 < s.1.length + 1 + x.length + 1)) = true then (s.1, true) else (s.1 ++ wire x, false)
def st (l : List (List UInt8)) : List UInt8 × Bool := l.foldl stp ([], false)
theorem st_snoc (l : List (List UInt8)) (x : List UInt8) : st (l ++ [x]) = stp (st l) x := by unfold st; rw [List.foldl_append]; rfl
theorem stp_long {s : List UInt8 × Bool} {x : List UInt8} (h : s.2 = true) : stp s x = (s.1, true) := by unfold stp; rw [h]; rfl
theorem stp_no {s : List UInt8 × Bool} {x : List UInt8} (h : 63 < x.length ∨ 255 < s.1.length + 1 + x.length + 1) : stp s x = (s.1, true) := by
  unfold stp
  rw [if_pos (by rcases h with h | h <;> simp [h])]
theorem stp_yes {s : List UInt8 × Bool} {x : List UInt8} (h0 : s.2 = false) (h1 : ¬ 63 < x.length) (h2 : ¬ 255 < s.1.length + 1 + x.length + 1) : stp s x = (s.1 ++ wire x, false) := by
  unfold stp
  rw [if_neg (by rw [h0, decide_eq_false h1, decide_eq_false h2]; simp)]
theorem wire_len (x : List UInt8) : (wire x).length = x.length + 1 := by simp [wire]
theorem wires_snoc (l : List (List UInt8)) (x : List UInt8) : wires (l ++ [x]) = wires l ++ wire x := by rw [wires_app]; simp [wires]
def StIs (l : List (List UInt8)) : Prop := (st l).1.length ≤ 254 ∧ (((st l).2 = false ∧ (st l).1 = wires l ∧ ∀ x ∈ l, x.length ≤ 63) ∨ ((st l).2 = true ∧ ∀ r, ¬ ok (l ++ r)))
theorem st_step {l : List (List UInt8)} (x : List UInt8) (ih : StIs l) : StIs (l ++ [x]) := by
  unfold StIs
  rw [st_snoc]
  obtain ⟨h0, h⟩ := ih
  rcases h with ⟨h1, h2, h3⟩ | ⟨h1, h2⟩
  · by_cases hx : 63 < x.length
    · rw [stp_no (Or.inl hx)]
      exact ⟨h0, Or.inr ⟨rfl, fun r ho => by have := (ho.1 x (by simp)).2; omega⟩⟩
    · by_cases hy : 255 < (st l).1.length + 1 + x.length + 1
      · rw [stp_no (Or.inr hy)]
        refine ⟨h0, Or.inr ⟨rfl, fun r ho => ?_⟩⟩
        have h4 := ho.2
        rw [names_len, wires_app, wires_snoc, List.length_append, List.length_append, wire_len, ← h2] at h4
        omega
      · rw [stp_yes h1 hx hy]
        refine ⟨by rw [List.length_append, wire_len]; omega, Or.inl ⟨rfl, by rw [wires_snoc, h2], fun y hy' => ?_⟩⟩
        rcases List.mem_append.1 hy' with h5 | h5
        · exact h3 y h5
        · obtain rfl : y = x := by simpa using h5
          omega
  · rw [stp_long h1]
    exact ⟨h0, Or.inr ⟨rfl, fun r => by rw [List.append_assoc]; exact h2 _⟩⟩
theorem st_all : ∀ (l o : List (List UInt8)), StIs o → StIs (o ++ l)
  | [], o, h => by rwa [List.append_nil]
  | x :: l, o, h => by
    have := st_all l (o ++ [x]) (st_step x h)
    rwa [List.append_assoc] at this
theorem st_is (l : List (List UInt8)) : StIs l := st_all l [] ⟨by simp [st], Or.inl ⟨rfl, rfl, by simp⟩⟩
theorem join_long {l : List (List UInt8)} (hn : ¬ [] ∈ l) (h : (st l).2 = true) : join l = ([], 4) := by
  rcases (st_is l).2 with ⟨h1, _⟩ | ⟨_, h2⟩
  · rw [h] at h1; cases h1
  · exact join_no hn (by have := h2 []; rwa [List.append_nil] at this)
theorem join_short {l : List (List UInt8)} (hn : ¬ [] ∈ l) (h : (st l).2 = false) : join l = ((st l).1 ++ [0], 0) := by
  obtain ⟨h0, ⟨_, h1, h2⟩ | ⟨h1, _⟩⟩ := st_is l
  · rw [join_ok (ok_yes hn h2 (by rw [← h1]; exact h0)), h1]
    rfl
  · rw [h] at h1; cases h1
theorem join_empty {l pre : List (List UInt8)} (h : pre <+: l) (hm : [] ∈ pre) : join l = ([], 3) := by
  unfold join
  rw [if_pos (h.subset hm)]
end Lab
theorem u8T' : SlT Tryd.prog 44 5 (.int .u8 0) 1 1 := ⟨Tryd.underlying44, by kernel_rfl, rfl, by omega⟩
theorem row_cells {w : World} {base e : TypeId} {size n : Nat} {v : Value} {xs : List Value} (h : w.ownsRow base e size v n xs) {j : Nat} {o : Obj} (ej : v.ownBlock = some j) (hj : w.heap[j]? = some o) : o.isCells = true := by
  rcases h.2 with ⟨rfl, _⟩ | ⟨g, cap, cur, rfl, _, hg, _⟩
  · simp [Value.ownBlock] at ej
  · obtain rfl : g = j := by simpa [Value.ownBlock] using ej
    rw [hg] at hj; cases hj; rfl
theorem box_rowed {X Y : World} {b n₀ : Nat} {t e : TypeId} {size k : Nat} {u v : Value} {xs : List Value} (h : Boxed X b t u) (hte : t ≠ e) (hr : X.ownsRow n₀ e size v k xs) (hg : X.grownBy Y v.ownBlock) : Boxed Y b t u := h.kept hg (h.not_row hte hr)
/-- two appends to a row, behind a literal -/
theorem two_grown {W w1 w2 : World} {n₀ : Nat} {e : TypeId} {size k k1 : Nat} {v v1 : Value} {xs ys : List Value} {tmp : Obj} (hn₀ : n₀ ≤ W.heap.size) (hrow : W.ownsRow n₀ e size v k xs) (g1 : (W.alloc tmp).grownBy w1 v.ownBlock) (o1 : w1.ownsRow n₀ e size v1 k1 ys) (g2 : w1.grownBy w2 v1.ownBlock) :
    KeepsOthers W w2 ∧ Below n₀ W w2 := by
  have r0 := hrow.alloc tmp
  have s1 : n₀ ≤ w1.heap.size := by have := g1.size; simp at this; omega
  refine ⟨((KeepsOthers.alloc W tmp).trans (KeepsOthers.of_grownBy g1 fun j o ej hj => row_cells r0 ej hj)).trans (KeepsOthers.of_grownBy g2 fun j o ej hj => row_cells o1 ej hj), ?_⟩
  exact (((Below.refl n₀ W).alloc hn₀ tmp).grown g1 (by simp; omega) fun j ej => (r0.lt j ej).1).grown g2 s1 fun j ej => (o1.lt j ej).1
/-- 'append(b, s...)' of a text, in a fence -/
theorem wpListIn_append_txt {F : Fence} {n' : Nat} {ops : Array Oper} {rest : List Oper} {o : Oper} {a : Act} {Q : Exit → Act → World → Prop} {w : World} (hgd : o.guard = none) (sl x : Operand)
    (ho : o.op = .call { callee := .builtin .append, args := #[sl, x], argTypes := #[44, 9] })
    (base : Nat) (v : Value) (k : Nat) (xs : List Value) (hs : a.eval sl = v) (hown : w.ownsRow base 5 1 v k xs) (t : List UInt8) (hx : a.eval x = .string (strB t)) (hb : k + t.length ≤ 140737488355328) (hbase : base ≤ w.heap.size)
    (h : ∀ v' w', w'.ownsRow base 5 1 v' (k + t.length) (xs ++ U t) → w.grownBy w' v.ownBlock → wpListIn F n' Tryd.prog ops Q rest (a.put o.dst v') w') : wpListIn F n' Tryd.prog ops Q (o :: rest) a w := by
  obtain ⟨i, hi, hz, hsz, hby⟩ := u8T'.parts
  refine wpListIn_plain hgd fun K hK => ?_
  obtain ⟨v', w', hr, h2, h3, _⟩ := Lib.run_append_own_string (P := Tryd.prog) w base 44 9 o.type 5 i u8T'.ht Tryd.underlying9 hi hz hsz hby v k xs hown (strB t) (by unfold maxLen; rw [strB_sz]; omega) (by rw [strB_sz]; omega) hbase
  rw [strB_sz] at h2
  unfold Oper.wpIn
  refine ⟨?_, ?_⟩
  · simp [Oper.about, ho, resolve, Target.leads, Sem.run_pure]
  · rw [Oper.semAt_plain F _ _ (by rw [ho]; intro c hc'; cases hc')]
    simp [execOp, ho, resolve, invoke, builtin, hs, hx, hr, Result.andThen]
    exact hK _ _ (h v' w' (by simpa [Lib.strCells, strB, U] using h2) h3)
theorem blsplit_in (n : Nat) (hn : 1 ≤ n) (s : List UInt8) (w : World) :
    CallsIn Fence.wide n Tryd.prog 28 #[.string (strB s), .string ⟨#[46]⟩] w fun e w' => e = .returned (.func (.func 44) #[] #[.pointer (some ⟨w.heap.size + 1, 0, none⟩), .pointer (some ⟨w.heap.size, 0, none⟩), .pointer (some ⟨w.heap.size + 1 + 1, 0, none⟩)]) ∧ w' = ((w.alloc (.cells #[.string (strB s)] 9)).alloc (.cells #[.string ⟨#[46]⟩] 9)).alloc (.cells #[.int .i64 0] 3) := by
  have inner : CallsIn Fence.wide (n - 1) Tryd.prog 36 #[.string (strB s), .string ⟨#[46]⟩, .int .i64 0] w fun e w' => e = .returned (.func (.func 44) #[] #[.pointer (some ⟨w.heap.size + 1, 0, none⟩), .pointer (some ⟨w.heap.size, 0, none⟩), .pointer (some ⟨w.heap.size + 1 + 1, 0, none⟩)]) ∧ w' = ((w.alloc (.cells #[.string (strB s)] 9)).alloc (.cells #[.string ⟨#[46]⟩] 9)).alloc (.cells #[.int .i64 0] 3) := by
    refine callsIn_of_wp Tryd.func36 rfl trivial ?_ rfl
    simp only [Tryd.ntmps36, List.size_toArray, List.length_cons, List.length_nil, Nat.reduceAdd, Nat.reduceSub, Array.replicate_succ, Array.replicate_zero, List.push_toArray, List.append_toArray, List.nil_append, List.cons_append]
    gi_wp2
    go_ret
    exact ⟨rfl, rfl⟩
  refine callsIn_of_wp Tryd.func28 rfl trivial ?_ rfl
  simp only [Tryd.ntmps28, List.size_toArray, List.length_cons, List.length_nil, Nat.reduceAdd, Nat.reduceSub, Array.replicate_succ, Array.replicate_zero, List.push_toArray, List.append_toArray, List.nil_append, List.cons_append]
  gi_wp2_with fail
  refine ⟨trivial, inner.mono ?_⟩
  rintro _ w' ⟨rfl, rfl⟩
  gi_wp2
  go_ret
  exact ⟨rfl, rfl⟩
set_option maxRecDepth 100000 in
set_option maxHeartbeats 4000000 in
theorem bljoin_in (n : Nat) (hn : 6 ≤ n) (gf : Nat) (lb : Array Value) (eg : ∀ args w, (callFunc gf args).run Tryd.prog w = .ok (.enter gf args) w) (B : Nat) (l : List (List UInt8)) (hl : ∀ x ∈ l, x.length ≤ 1000000) (w : World) (hB : B ≤ w.heap.size)
    (hseq : ∀ W, Below w.heap.size w W → SeqC (n - 1) Tryd.prog gf lb encsB B w.heap.size l W) :
    CallsIn Fence.wide n Tryd.prog 27 #[.func (.func gf) #[] lb] w fun e W' => e = .returned (.tuple #[.string (strB (Lab.join l).1), .int .i64 (Lab.join l).2]) ∧ Below B w W' := by
  have h1 : 1 ≤ n := by omega
  obtain ⟨i0, hi, hz0, hz1, hz2⟩ := u8T'.parts
  refine callsIn_of_wp_marks Tryd.func27 rfl trivial ?_ rfl
  simp only [Tryd.ntmps27, List.size_toArray, List.length_cons, List.length_nil, Nat.reduceAdd, Nat.reduceSub, Array.replicate_succ, Array.replicate_zero, List.push_toArray, List.append_toArray, List.nil_append, List.cons_append]
  gi_wp2_with fail
  have bS := (((Boxed.new w 9 (.string ⟨#[]⟩)).alloc (.cells #[.int .i64 0] 23)).alloc (.cells #[.slice none 0 0] 44)).alloc (.cells #[.bool false] 4)
  have bE := ((Boxed.new (w.alloc (.cells #[.string ⟨#[]⟩] 9)) 23 (.int .i64 0)).alloc (.cells #[.slice none 0 0] 44)).alloc (.cells #[.bool false] 4)
  have bB := (Boxed.new ((w.alloc (.cells #[.string ⟨#[]⟩] 9)).alloc (.cells #[.int .i64 0] 23)) 44 (.slice none 0 0)).alloc (.cells #[.bool false] 4)
  have bL := Boxed.new (((w.alloc (.cells #[.string ⟨#[]⟩] 9)).alloc (.cells #[.int .i64 0] 23)).alloc (.cells #[.slice none 0 0] 44)) 4 (.bool false)
  have hB0 : Below w.heap.size w ((((w.alloc (.cells #[.string ⟨#[]⟩] 9)).alloc (.cells #[.int .i64 0] 23)).alloc (.cells #[.slice none 0 0] 44)).alloc (.cells #[.bool false] 4)) := ((((Below.refl _ w).alloc (Nat.le_refl _) _).alloc (by simp) _).alloc (by simp; omega) _).alloc (by simp; omega) _
  have hsz : ((((w.alloc (.cells #[.string ⟨#[]⟩] 9)).alloc (.cells #[.int .i64 0] 23)).alloc (.cells #[.slice none 0 0] 44)).alloc (.cells #[.bool false] 4)).heap.size = w.heap.size + 4 := by simp
  simp only [World.size_alloc] at bS bE bB bL
  obtain ⟨W0, hW0⟩ : ∃ W0, ((((w.alloc (.cells #[.string ⟨#[]⟩] 9)).alloc (.cells #[.int .i64 0] 23)).alloc (.cells #[.slice none 0 0] 44)).alloc (.cells #[.bool false] 4)) = W0 := ⟨_, rfl⟩
  rw [hW0] at bS bE bB bL hB0 hsz
  rw [hW0]
  clear hW0
  have hq := hseq W0 hB0
  clear hseq
  refine wpIn_rangeSeq h1 (gf := gf) (lb := lb) rfl eg hq (by omega) (fun _ => rfl)
    (fun pre W => ¬ [] ∈ pre ∧ ((((Boxed W w.heap.size 9 (.string ⟨#[]⟩) ∧ Boxed W (w.heap.size + 1) 23 (.int .i64 0)) ∧ Boxed W (w.heap.size + 1 + 1 + 1) 4 (.bool (Lab.st pre).2)) ∧ (∃ v, Boxed W (w.heap.size + 1 + 1) 44 v ∧ W.ownsRow w.heap.size 5 1 v (Lab.st pre).1.length (U (Lab.st pre).1))) ∧ Below B w W))
    (fun c pre W => (c = .ret ∧ [] ∈ pre) ∧ (Boxed W w.heap.size 9 (.string ⟨#[]⟩) ∧ Boxed W (w.heap.size + 1) 23 (.int .i64 3)) ∧ Below B w W)
    (Stays.and (stays_pure B w.heap.size W0.heap.size (fun pre => ¬ [] ∈ pre)) (Stays.and (Stays.and (Stays.and (Stays.and (stays_box _ _ (fun _ => .string ⟨#[]⟩) (by omega)) (stays_box _ _ (fun _ => .int .i64 0) (by omega))) (stays_box _ _ (fun pre => .bool (Lab.st pre).2) (by omega)))
      (stays_own (fun s X Y row hs hg hr => by
        obtain ⟨v, h1, h2⟩ := hs
        obtain ⟨v, h1, h2, _⟩ := holdsRow_own w.heap.size (w.heap.size + 1 + 1) 44 5 1 (fun pre : List (List UInt8) => (Lab.st pre).1.length) (fun pre => U (Lab.st pre).1) (fun _ _ => True) s X Y row ⟨v, h1, h2, trivial⟩ hg hr
        exact ⟨v, h1, h2⟩) (fun s X b u hs _ hb => by
        obtain ⟨v, h1, h2⟩ := hs
        exact ⟨v, h1.other (by omega) u, h2.kept (grownBy_setCell' X b u) (.inr fun e => by have := (h2.lt b e).1; omega)⟩))) (stays_below hB (by omega))))
    (fun c s X r o o' hs hr ho hc => by
      obtain ⟨hp, ⟨h1, h2⟩, h3⟩ := hs
      have hg := grownBy_putObj' X r o'
      refine ⟨hp, ⟨h1.kept hg (fun e => by injection e with e; omega), h2.kept hg (fun e => by injection e with e; omega)⟩, h3.trans ⟨hg.os, hg.tape, hg.output, hg.size, fun k hk => hg.block k (by have := h3.size; omega) (fun e => by injection e with e; omega)⟩⟩)
    ⟨by simp, ⟨⟨⟨bS, bE⟩, bL⟩, ⟨_, bB, World.ownsRow_nil _ _ _ _⟩⟩, hB0.mono hB⟩
    (fun x => { tmps := #[.func (.func gf) #[] lb, undef, .pointer (some ⟨w.heap.size, 0, none⟩), .pointer (some ⟨w.heap.size + 1, 0, none⟩), .pointer (some ⟨w.heap.size + 1 + 1, 0, none⟩), .pointer (some ⟨w.heap.size + 1 + 1 + 1, 0, none⟩), .string (strB x), .func (.func gf) #[] lb, .string (strB x), undef, undef, undef, undef, undef, undef, undef, undef, undef, undef, undef, undef, undef, undef, undef, undef, undef, undef, undef, undef, undef, undef, undef, undef, undef, undef, undef, undef, undef, undef, undef, undef, undef], defers := [] }) ?assign ?body ?done ?stop
  case assign =>
    intro lp x W K hK
    gi_wp2
    exact hK
  case body =>
    rintro lp pre x W ⟨hno, ⟨⟨⟨bS, bE⟩, bL⟩, ⟨v, bB, hrow⟩⟩, hB⟩ hlt
    have hst := Lab.st_is pre
    obtain ⟨q, hq'⟩ : ∃ q, (Lab.st pre).1 = q := ⟨_, rfl⟩
    obtain ⟨lg, hlg⟩ : ∃ lg, (Lab.st pre).2 = lg := ⟨_, rfl⟩
    have HS : Hid (Lab.st pre = (q, lg)) := Lib.hid (by rw [← hq', ← hlg])
    have h254 : q.length ≤ 254 := by rw [← hq']; exact hst.1
    rw [hq'] at hrow
    rw [hlg] at bL
    have HNO := Lib.hid hno
    clear hst hq' hlg hno
    obtain ⟨A, cp, rfl⟩ := own_slice hrow
    have cS := bS.cell
    have cE := bE.cell
    have cB := bB.cell
    have cL := bL.cell
    have fS := bS.frozen
    have fE := bE.frozen
    have fL := bL.frozen
    have hwz : w.heap.size ≤ W.heap.size := by have := bL.lt; omega
    have hxm : x ∈ l := hlt.subset (by simp)
    have hx1 := hl x hxm
    clear hl hlt hxm
    by_cases hx0 : x = []
    · have s1 : (strB x == (⟨#[]⟩ : ByteArray)) = true := by rw [hx0]; rfl
      have s2 : x.isEmpty = true := by rw [hx0]; rfl
      have HM : Hid ([] ∈ pre ++ [x]) := Lib.hid (by rw [hx0]; simp)
      clear hx0
      gi_wp2
      refine ⟨((KeepsOthers.setCell _ _ _).trans (KeepsOthers.setCell _ _ _)).from _, ⟨rfl, HM.out⟩, ⟨?_, ?_⟩, ?_⟩
      · exact (bS.set (.string ⟨#[]⟩)).other (by omega) _
      · exact (bE.other (B' := w.heap.size) (by omega) (.string ⟨#[]⟩)).set (.int .i64 3)
      · exact (hB.setCell (p := ⟨w.heap.size, 0, none⟩) (by simp; omega) _).setCell (p := ⟨w.heap.size + 1, 0, none⟩) (by simp; omega) _
    have s1 : (strB x == (⟨#[]⟩ : ByteArray)) = false := by have h1 := strB_beq x []; rw [decide_eq_false hx0] at h1; exact h1
    have s2 : x.isEmpty = false := by cases x with | nil => exact absurd rfl hx0 | cons a b => rfl
    have HN2 : Hid (¬ [] ∈ pre ++ [x]) := Lib.hid (by
      intro hm
      rcases List.mem_append.1 hm with hm | hm
      · exact HNO.out hm
      · exact hx0 (List.mem_singleton.1 hm).symm)
    clear hx0
    obtain ⟨xn, hxn⟩ : ∃ xn, x.length = xn := ⟨_, rfl⟩
    have hsz1 : (strB x).size = xn := by rw [strB_sz, hxn]
    rw [hxn] at hx1
    have HXN := Lib.hid hxn
    clear hxn
    obtain ⟨k, hk⟩ : ∃ k, q.length = k := ⟨_, rfl⟩
    rw [hk] at h254 hrow bB cB
    have HK := Lib.hid hk
    clear hk
    have bT := bL.set (.bool true)
    have cT := bT.cell
    have keepT : ∀ r, Lab.st (pre ++ [x]) = (r, true) → r = q → (fun pre W => ¬ [] ∈ pre ∧ ((((Boxed W w.heap.size 9 (.string ⟨#[]⟩) ∧ Boxed W (w.heap.size + 1) 23 (.int .i64 0)) ∧ Boxed W (w.heap.size + 1 + 1 + 1) 4 (.bool (Lab.st pre).2)) ∧ (∃ v, Boxed W (w.heap.size + 1 + 1) 44 v ∧ W.ownsRow w.heap.size 5 1 v (Lab.st pre).1.length (U (Lab.st pre).1))) ∧ Below B w W)) (pre ++ [x]) (W.setCell ⟨w.heap.size + 1 + 1 + 1, 0, none⟩ (.bool true)) := fun r hr hrq => by
      subst hrq
      show _ ∧ _
      rw [hr]
      refine ⟨HN2.out, ⟨⟨⟨bS.other (by omega) _, bE.other (by omega) _⟩, bT⟩, ⟨_, bB.other (by omega) _, ?_⟩⟩, hB.setCell (p := ⟨w.heap.size + 1 + 1 + 1, 0, none⟩) (by simp; omega) _⟩
      have h5 := hrow.kept (grownBy_setCell' W (w.heap.size + 1 + 1 + 1) (.bool true)) (.inr (bL.not_row (by decide) hrow).symm)
      rw [HK.out]
      exact h5
    cases lg with
    | true =>
      have HST : Hid (Lab.st (pre ++ [x]) = (q, true)) := Lib.hid (by rw [Lab.st_snoc, HS.out, Lab.stp_long rfl])
      gi_wp2
      exact ⟨(KeepsOthers.setCell _ _ _).from _, (Below.refl w.heap.size W).setCell (p := ⟨w.heap.size + 1 + 1 + 1, 0, none⟩) (by simp; omega) _, keepT q HST.out rfl⟩
    | false =>
      by_cases hx63 : 63 < xn
      · have HST : Hid (Lab.st (pre ++ [x]) = (q, true)) := Lib.hid (by rw [Lab.st_snoc, HS.out, Lab.stp_no (Or.inl (by rw [HXN.out]; exact hx63))])
        have g1 : decide (63 < (xn : Int)) = true := decide_eq_true (by omega)
        have g2 : decide (63 < xn) = true := decide_eq_true hx63
        clear hx63
        gi_wp2
        exact ⟨(KeepsOthers.setCell _ _ _).from _, (Below.refl w.heap.size W).setCell (p := ⟨w.heap.size + 1 + 1 + 1, 0, none⟩) (by simp; omega) _, keepT q HST.out rfl⟩
      have g1 : decide (63 < (xn : Int)) = false := decide_eq_false (by omega)
      have g2 : decide (63 < xn) = false := decide_eq_false hx63
      obtain ⟨k1, hk1⟩ : ∃ z : Int, (k : Int) + 1 = z := ⟨_, rfl⟩
      obtain ⟨k2, hk2⟩ : ∃ z : Int, k1 + (xn : Int) = z := ⟨_, rfl⟩
      obtain ⟨k3, hk3⟩ : ∃ z : Int, k2 + 1 = z := ⟨_, rfl⟩
      have U1 : Hid (wrap64 ((k : Int) + 1) = k1 ∧ IntKind.i64.wrap ((k : Int) + 1) = k1) := Lib.hid ⟨by rw [← hk1]; exact w64_of (by omega) (by omega), by rw [← hk1]; exact i64_of (by omega) (by omega)⟩
      have U2 : Hid (wrap64 (k1 + (xn : Int)) = k2 ∧ IntKind.i64.wrap (k1 + (xn : Int)) = k2) := Lib.hid ⟨by rw [← hk2]; exact w64_of (by omega) (by omega), by rw [← hk2]; exact i64_of (by omega) (by omega)⟩
      have U3 : Hid (wrap64 (k2 + 1) = k3 ∧ IntKind.i64.wrap (k2 + 1) = k3) := Lib.hid ⟨by rw [← hk3]; exact w64_of (by omega) (by omega), by rw [← hk3]; exact i64_of (by omega) (by omega)⟩
      by_cases hbig : 255 < k + 1 + xn + 1
      · have HST : Hid (Lab.st (pre ++ [x]) = (q, true)) := Lib.hid (by rw [Lab.st_snoc, HS.out, Lab.stp_no (Or.inr (by rw [HXN.out]; show 255 < q.length + 1 + xn + 1; rw [HK.out]; exact hbig))])
        have g3 : decide (255 < k3) = true := decide_eq_true (by omega)
        clear hx63 hbig hk1 hk2 hk3
        obtain ⟨u1, u2⟩ := U1.out
        obtain ⟨u3, u4⟩ := U2.out
        obtain ⟨u5, u6⟩ := U3.out
        gi_wp2
        exact ⟨(KeepsOthers.setCell _ _ _).from _, (Below.refl w.heap.size W).setCell (p := ⟨w.heap.size + 1 + 1 + 1, 0, none⟩) (by simp; omega) _, keepT q HST.out rfl⟩
      · have HST : Hid (Lab.st (pre ++ [x]) = (q ++ Lab.wire x, false)) := Lib.hid (by rw [Lab.st_snoc, HS.out, Lab.stp_yes rfl (by rw [HXN.out]; exact hx63) (by rw [HXN.out]; show ¬ 255 < q.length + 1 + xn + 1; rw [HK.out]; exact hbig)])
        have g3 : decide (255 < k3) = false := decide_eq_false (by omega)
        clear keepT bT cT
        obtain ⟨ci, hci⟩ : ∃ z : Int, ((UInt8.ofNat xn).toNat : Int) = z := ⟨_, rfl⟩
        have CI : Hid (IntKind.u8.wrap (xn : Int) = ci) := Lib.hid (by rw [← hci, Lab.ofNat_len (by omega)]; exact u8_fit (by omega))
        have HCI := Lib.hid hci
        have bF := bL.set (.bool false)
        have bS1 := bS.other (B' := w.heap.size + 1 + 1 + 1) (by omega) (.bool false)
        have bE1 := bE.other (B' := w.heap.size + 1 + 1 + 1) (by omega) (.bool false)
        have bB1 := bB.other (B' := w.heap.size + 1 + 1 + 1) (by omega) (.bool false)
        have row1 := hrow.kept (grownBy_setCell' W (w.heap.size + 1 + 1 + 1) (.bool false)) (.inr (bL.not_row (by decide) hrow).symm)
        have hB1 := hB.setCell (p := ⟨w.heap.size + 1 + 1 + 1, 0, none⟩) (by simp; omega) (.bool false)
        have kB1 := (Below.refl w.heap.size W).setCell (p := ⟨w.heap.size + 1 + 1 + 1, 0, none⟩) (by simp; omega) (.bool false)
        have kO1 := KeepsOthers.setCell W ⟨w.heap.size + 1 + 1 + 1, 0, none⟩ (.bool false)
        have hWs : (W.setCell ⟨w.heap.size + 1 + 1 + 1, 0, none⟩ (.bool false)).heap.size = W.heap.size := by simp
        have cF := bF.cell
        have cB1 := bB1.cell
        have k1le : k + 1 + xn ≤ 1000 := by omega
        clear hx63 hbig hk1 hk2 hk3 hci hB bS bE bB hrow
        obtain ⟨u1, u2⟩ := U1.out
        obtain ⟨u3, u4⟩ := U2.out
        obtain ⟨u5, u6⟩ := U3.out
        have ci1 := CI.out
        gi_wp2_with (first
          | (gi_at_builtin; refine wpListIn_append_txt rfl _ _ rfl w.heap.size _ _ _ rfl o1 x rfl (by have := HXN.out; omega) (by have := g1'.size; simp at this; omega) ?_; intro v2 w2 o2 g2'; obtain ⟨A2, c2, rfl⟩ := own_slice o2; have kk := two_grown (by omega) row1 g1' o1 g2'; have bB2 := (box_rowed (box_rowed (bB1.alloc (.cells #[.int .u8 ci] 5)) (by decide) (row1.alloc _) g1') (by decide) o1 g2'); have cB2 := bB2.cell; have fB2 := bB2.frozen)
          | (gi_at_builtin; refine wpListIn_append_own _ rfl _ _ 44 rfl w.heap.size 5 i0 (.int .u8 0) 1 1 Tryd.underlying44 hi hz0 hz1 hz2 rfl (by decide) _ _ _ rfl (row1.alloc _) ⟨W.heap.size, 0, none⟩ 1 1 [.int .u8 ci] rfl rfl (by have h9 := cell_one_new (W.setCell ⟨w.heap.size + 1 + 1 + 1, 0, none⟩ (.bool false)) (.int .u8 ci) 5; rw [hWs] at h9; exact h9) (by simp [Value.oneCell']) (by unfold maxLen; omega) (by omega) (by simp; omega) ?_; intro v1 w1 o1 g1' _))
        have kB2 := kB1.trans kk.2
        have kO2 := kO1.trans kk.1
        have zS := (box_rowed (box_rowed (bS1.alloc (.cells #[.int .u8 ci] 5)) (by decide) (row1.alloc _) g1') (by decide) o1 g2').other (B' := w.heap.size + 1 + 1) (by omega) (.slice A2 (k + 1 + x.length) c2)
        have zE := (box_rowed (box_rowed (bE1.alloc (.cells #[.int .u8 ci] 5)) (by decide) (row1.alloc _) g1') (by decide) o1 g2').other (B' := w.heap.size + 1 + 1) (by omega) (.slice A2 (k + 1 + x.length) c2)
        have zL := (box_rowed (box_rowed (bF.alloc (.cells #[.int .u8 ci] 5)) (by decide) (row1.alloc _) g1') (by decide) o1 g2').other (B' := w.heap.size + 1 + 1) (by omega) (.slice A2 (k + 1 + x.length) c2)
        have zB := bB2.set (.slice A2 (k + 1 + x.length) c2)
        have zR := o2.kept (grownBy_setCell' w2 (w.heap.size + 1 + 1) (.slice A2 (k + 1 + x.length) c2)) (.inr (bB2.not_row (by decide) o2).symm)
        refine ⟨(kO2.trans (KeepsOthers.setCell _ _ _)).from _, kB2.setCell (p := ⟨w.heap.size + 1 + 1, 0, none⟩) (by simp; omega) _, HN2.out, ⟨⟨⟨zS, zE⟩, by rw [HST.out]; exact zL⟩, ⟨_, zB, ?_⟩⟩, (hB1.trans (kk.2.mono (by omega))).setCell (p := ⟨w.heap.size + 1 + 1, 0, none⟩) (by simp; omega) _⟩
        have e9 : (q ++ Lab.wire x).length = k + 1 + x.length := by rw [List.length_append, Lab.wire_len, HK.out]; omega
        have e8 : U (q ++ Lab.wire x) = U q ++ [.int .u8 ci] ++ U x := by
          rw [← HCI.out, ← HXN.out]
          simp [U, Lab.wire]
        rw [HST.out]
        show _ ∧ _
        rw [e9, e8]
        exact zR
  case done =>
    rintro D W hD ⟨hno, ⟨⟨⟨bS, bE⟩, bL⟩, ⟨v, bB, hrow⟩⟩, hB⟩ hK
    have h254 := (Lab.st_is l).1
    cases hlg : (Lab.st l).2 with
    | true =>
      have HF := Lib.hid (Lab.join_long hno hlg)
      rw [hlg] at bL
      have cS := bS.cell
      have cE := bE.cell
      have cL := bL.cell
      have fS := bS.frozen
      have fE := bE.frozen
      clear hno hlg hrow bB
      gi_wp2
      have k2 := (bS.set (.string ⟨#[]⟩)).other (B' := w.heap.size + 1) (by omega) (.int .i64 4)
      have f2 := (bE.other (B' := w.heap.size) (by omega) (.string ⟨#[]⟩)).set (.int .i64 4)
      have hK' := ((KeepsOthers.setCell W ⟨w.heap.size, 0, none⟩ (.string ⟨#[]⟩)).trans (KeepsOthers.setCell _ ⟨w.heap.size + 1, 0, none⟩ (.int .i64 4))).same D _ hK rfl
      have hB2 : Below B w ((W.setCell ⟨w.heap.size, 0, none⟩ (.string ⟨#[]⟩)).setCell ⟨w.heap.size + 1, 0, none⟩ (.int .i64 4)) := (hB.setCell (p := ⟨w.heap.size, 0, none⟩) (by simp; omega) _).setCell (p := ⟨w.heap.size + 1, 0, none⟩) (by simp; omega) _
      refine ⟨by simp, .inl ⟨_, _, rfl, run_takeDeferred hK', ?_⟩⟩
      have c5 := cell_kept k2.cell (grownBy_putObj' _ D (.deferred none)) (fun r e => by cases e; exact ⟨_, hK', rfl⟩)
      have c6 := cell_kept f2.cell (grownBy_putObj' _ D (.deferred none)) (fun r e => by cases e; exact ⟨_, hK', rfl⟩)
      have hgp := grownBy_putObj' ((W.setCell ⟨w.heap.size, 0, none⟩ (.string ⟨#[]⟩)).setCell ⟨w.heap.size + 1, 0, none⟩ (.int .i64 4)) D (.deferred none)
      refine ⟨.tuple #[.string ⟨#[]⟩, .int .i64 4], ?_, by rw [HF.out]; rfl, hB2.trans ⟨hgp.os, hgp.tape, hgp.output, hgp.size, fun k hk => hgp.block k (by have := hB2.size; omega) (fun e => by injection e with e; omega)⟩⟩
      simp [results, Tryd.f27, go_sem, c5, c6]
    | false =>
      have HF := Lib.hid (Lab.join_short hno hlg)
      rw [hlg] at bL
      obtain ⟨q, hq'⟩ : ∃ q, (Lab.st l).1 = q := ⟨_, rfl⟩
      rw [hq'] at hrow h254 HF
      obtain ⟨k, hk⟩ : ∃ k, q.length = k := ⟨_, rfl⟩
      rw [hk] at hrow h254
      have HKK := Lib.hid hk
      obtain ⟨A, cp, rfl⟩ := own_slice hrow
      have cS := bS.cell
      have cE := bE.cell
      have cL := bL.cell
      have cB := bB.cell
      have hwz : w.heap.size ≤ W.heap.size := by have := bL.lt; omega
      clear hno hlg hq' hk
      obtain ⟨tb, htb⟩ : ∃ tb, strB (q ++ [0]) = tb := ⟨_, rfl⟩
      have HTB := Lib.hid htb
      clear htb
      gi_wp2_with (gi_at_builtin; refine wpListIn_append_own _ rfl _ _ 44 rfl w.heap.size 5 i0 (.int .u8 0) 1 1 Tryd.underlying44 hi hz0 hz1 hz2 rfl (by decide) _ _ _ rfl (hrow.alloc _) ⟨W.heap.size, 0, none⟩ 1 1 [.int .u8 0] rfl rfl (cell_one_new _ _ _) (by simp [Value.oneCell']) (by unfold maxLen; omega) (by omega) (by simp; omega) ?_; intro v1 w1 o1 g1 _; obtain ⟨A1, c1, rfl⟩ := own_slice o1; have o2 : w1.ownsRow w.heap.size 5 1 (.slice A1 (k + 1) c1) (k + 1) (U (q ++ [0])) := (by simpa [U] using o1); have RS : (convert 44 9 (.slice A1 (k + 1) c1)).run Tryd.prog w1 = .ok (.string tb) w1 := (by rw [← HTB.out]; exact run_str 44 9 5 Tryd.underlying44 Tryd.underlying5 Tryd.underlying9 (c := c1) (Rd.of_own o2)); have zS := box_rowed (bS.alloc (.cells #[.int .u8 0] 5)) (by decide) (hrow.alloc _) g1; have zE := box_rowed (bE.alloc (.cells #[.int .u8 0] 5)) (by decide) (hrow.alloc _) g1; have yS := zS.cell; have yE := zE.cell; have xS := zS.frozen; have xE := zE.frozen)
      have hK1 : w1.heap[D]? = some (.deferred (some [])) := by
        have h5 : (W.alloc (.cells #[.int .u8 0] 5)).heap[D]? = some (.deferred (some [])) := (Below.heap_alloc W _ D (Array.getElem?_eq_some_iff.1 hK).1).trans hK
        refine (g1.block D (Array.getElem?_eq_some_iff.1 h5).1 fun e => ?_).trans h5
        have h6 := row_cells (hrow.alloc (.cells #[.int .u8 0] 5)) e.symm h5
        cases h6
      have hBw : Below B w w1 := (hB.alloc (by have := hB.size; omega) (.cells #[.int .u8 0] 5)).grown g1 (by simp; omega) fun j ej => by have := ((hrow.alloc (.cells #[.int .u8 0] 5)).lt j ej).1; omega
      have k2 := (zS.set (.string tb)).other (B' := w.heap.size + 1) (by omega) (.int .i64 0)
      have f2 := (zE.other (B' := w.heap.size) (by omega) (.string tb)).set (.int .i64 0)
      have hK' := ((KeepsOthers.setCell w1 ⟨w.heap.size, 0, none⟩ (.string tb)).trans (KeepsOthers.setCell _ ⟨w.heap.size + 1, 0, none⟩ (.int .i64 0))).same D _ hK1 rfl
      have hB2 : Below B w ((w1.setCell ⟨w.heap.size, 0, none⟩ (.string tb)).setCell ⟨w.heap.size + 1, 0, none⟩ (.int .i64 0)) := (hBw.setCell (p := ⟨w.heap.size, 0, none⟩) (by simp; omega) _).setCell (p := ⟨w.heap.size + 1, 0, none⟩) (by simp; omega) _
      refine ⟨by simp, .inl ⟨_, _, rfl, run_takeDeferred hK', ?_⟩⟩
      have c5 := cell_kept k2.cell (grownBy_putObj' _ D (.deferred none)) (fun r e => by cases e; exact ⟨_, hK', rfl⟩)
      have c6 := cell_kept f2.cell (grownBy_putObj' _ D (.deferred none)) (fun r e => by cases e; exact ⟨_, hK', rfl⟩)
      have hgp := grownBy_putObj' ((w1.setCell ⟨w.heap.size, 0, none⟩ (.string tb)).setCell ⟨w.heap.size + 1, 0, none⟩ (.int .i64 0)) D (.deferred none)
      refine ⟨.tuple #[.string tb, .int .i64 0], ?_, by rw [HF.out, ← HTB.out], hB2.trans ⟨hgp.os, hgp.tape, hgp.output, hgp.size, fun k hk => hgp.block k (by have := hB2.size; omega) (fun e => by injection e with e; omega)⟩⟩
      simp [results, Tryd.f27, go_sem, c5, c6]
  case stop =>
    rintro D c pre W hD hpre ⟨⟨rfl, hm⟩, ⟨bS, bE⟩, hB⟩ hK
    have HF := Lib.hid (Lab.join_empty hpre hm)
    clear hm hpre
    gi_wp2
    refine ⟨by simp, .inl ⟨_, _, rfl, run_takeDeferred hK, ?_⟩⟩
    have c5 := cell_kept bS.cell (grownBy_putObj' _ D (.deferred none)) (fun r e => by cases e; exact ⟨_, hK, rfl⟩)
    have c6 := cell_kept bE.cell (grownBy_putObj' _ D (.deferred none)) (fun r e => by cases e; exact ⟨_, hK, rfl⟩)
    have hgp := grownBy_putObj' W D (.deferred none)
    refine ⟨.tuple #[.string ⟨#[]⟩, .int .i64 3], ?_, by rw [HF.out]; rfl, hB.trans ⟨hgp.os, hgp.tape, hgp.output, hgp.size, fun k hk => hgp.block k (by have := hB.size; omega) (fun e => by injection e with e; omega)⟩⟩
    simp [results, Tryd.f27, go_sem, c5, c6]
theorem egSplit : ∀ args w, (callFunc 44 args).run Tryd.prog w = .ok (.enter 44 args) w := enters_of Tryd.func44 (by kernel_rfl) rfl
theorem egValues : ∀ args w, (callFunc 42 args).run Tryd.prog w = .ok (.enter 42 args) w := enters_of Tryd.func42 (by kernel_rfl) rfl
set_option maxHeartbeats 1000000 in
theorem bljoin_wide (l : List (List UInt8)) (A : Option Addr) (n c : Nat) (w : World) (h : Rd w w.heap.size 1 A n (Tt l)) (hn : n ≤ 100000) (hl : ∀ x ∈ l, x.length ≤ 100000) : CallsIn Fence.wide 8 Tryd.prog 24 #[.slice A n c] w (TxE (Lab.join l).1 (Lab.join l).2 w) := by
  refine callsIn_of_wp Tryd.func24 rfl trivial ?_ rfl
  simp only [Tryd.ntmps24, List.size_toArray, List.length_cons, List.length_nil, Nat.reduceAdd, Nat.reduceSub, Array.replicate_succ, Array.replicate_zero, List.push_toArray, List.append_toArray, List.nil_append, List.cons_append]
  gi_wp2_with fail
  refine ⟨trivial, (blvalues_in _ A n c _).mono ?_⟩
  rintro _ w' ⟨rfl, rfl⟩
  have bA := Boxed.new w 28 (.slice A n c)
  have hb0 := (Below.refl w.heap.size w).alloc (Nat.le_refl _) (.cells #[.slice A n c] 28)
  have hsz : (w.alloc (.cells #[.slice A n c] 28)).heap.size = w.heap.size + 1 := by simp
  generalize w.alloc (.cells #[.slice A n c] 28) = W1 at *
  gi_wp2_with fail
  refine ⟨trivial, (bljoin_in _ (by omega) _ _ egValues w.heap.size l (fun x hx => by have := hl x hx; omega) W1 (by omega) (fun W hW => blvalues_seq _ (by omega) w.heap.size w.heap.size W1.heap.size A n c l (by omega) W (by have := hW.size; omega) hW.size ((Boxed.keep bA hW (by omega)).cell) ((h.below (hb0.trans (hW.mono (by omega)))).more (by omega)))).mono ?_⟩
  rintro _ w2 ⟨rfl, hb⟩
  gi_wp2
  go_ret2
  exact ⟨rfl, hb0.trans hb⟩
theorem bljoin_any (l : List (List UInt8)) (A : Option Addr) (n c : Nat) (w : World) (h : Rd w w.heap.size 1 A n (Tt l)) (hn : n ≤ 100000) (hl : ∀ x ∈ l, x.length ≤ 100000) : Calls Tryd.prog 24 #[.slice A n c] w (TxE (Lab.join l).1 (Lab.join l).2 w) := (callsIn_wide (n := 8)).1 (bljoin_wide l A n c w h hn hl)
end Go.Proofs.YtillnjhmdgmgeaaDoor
