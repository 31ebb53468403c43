/- ZRow5 (merged). -/
import Derived.Test.YtbioblknhfmelaaJZBuild
namespace Go.Proofs.Ytbioblknhfmelaa
set_option linter.unusedVariables false
set_option linter.unusedSimpArgs false
open Go.RowKit
/-- bytes stay under a store behind them -/
theorem Wr.under {w : World} {base g o n m c : Nat} {l news : List UInt8} (hex : ∀ j, j < news.length → (w.cell? ⟨g, o + n + j, none⟩).isSome = true) (h : Wr w base (some ⟨g, o, none⟩) m c l) (hm : m ≤ n) : Wr (w.setCells g (o + n) (U news)) base (some ⟨g, o, none⟩) m c l := by
  obtain ⟨h1, h2, h3, h4⟩ := h
  rcases h4 with ⟨e, _⟩ | ⟨g', o', e, hb, hlt, hc, hf⟩
  · cases e
  obtain ⟨rfl, rfl⟩ : g = g' ∧ o = o' := by simpa using e
  refine ⟨h1, h2, h3, Or.inr ⟨g, o, rfl, hb, Nat.lt_of_lt_of_le hlt (grown_setCells g (U news) (o + n) w).size, fun j x hx => ?_, fun j hj => ?_⟩⟩
  · have hj := (List.getElem?_eq_some_iff.1 hx).1
    rw [World.cell?_setCells_out g (U news) (o + n) w ⟨g, o + j, none⟩ (fun _ _ => Or.inl (by show o + j < o + n; omega))]
    exact hc j x hx
  · obtain ⟨f1, f2⟩ := hf j hj
    refine ⟨?_, by rw [World.frozen?_setCells]; exact f2⟩
    by_cases hj2 : n ≤ j ∧ j < n + news.length
    · have h5 := World.cell?_setCells_in g (U news) (o + n) w (fun i hi => by rw [U_length] at hi; exact hex i hi) (j - n) (by rw [U_length]; omega)
      rw [show o + n + (j - n) = o + j by omega] at h5
      rw [h5]
      rfl
    · rw [World.cell?_setCells_out g (U news) (o + n) w ⟨g, o + j, none⟩ (fun _ _ => by show o + j < o + n ∨ o + n + (U news).length ≤ o + j; rw [U_length]; omega)]
      exact f1
/-- what append leaves, and that what was there stays -/
def WroteK (w w' : World) (base : Nat) (A : Option Addr) (n : Nat) (A' : Option Addr) (n' c' : Nat) (l : List UInt8) : Prop :=
  Wrote w w' base A A' n' c' l ∧ (A' = A ∨ ∃ g, blk A' = some g ∧ w.heap.size ≤ g) ∧ n ≤ n' ∧ ∀ base0 m c0 l0, m ≤ n → Wr w base0 A m c0 l0 → Wr w' base0 A m c0 l0
theorem Wr.blk_lt {w : World} {base n c g : Nat} {A : Option Addr} {l : List UInt8} (h : Wr w base A n c l) (hg : blk A = some g) : g < w.heap.size := by
  rcases h.2.2.2 with ⟨rfl, _⟩ | ⟨g', o', rfl, _, hlt, _⟩
  · cases hg
  · injection hg with hg; subst hg; exact hlt
theorem WroteK.start {w : World} {base n c : Nat} {A : Option Addr} {l : List UInt8} (h : Wr w base A n c l) : WroteK w w base A n A n c l := ⟨Wrote.start h, Or.inl rfl, Nat.le_refl _, fun _ _ _ _ _ h => h⟩
theorem WroteK.alloc {a w : World} {base n n' c : Nat} {A A1 : Option Addr} {l : List UInt8} (h : WroteK a w base A n A1 n' c l) (o : Obj) : WroteK a (w.alloc o) base A n A1 n' c l := ⟨h.1.alloc o, h.2.1, h.2.2.1, fun b m c l hm hw => (h.2.2.2 b m c l hm hw).alloc o⟩
theorem WroteK.trans {a w w' : World} {base n0 n1 n2 c1 c2 : Nat} {A A1 A2 : Option Addr} {l1 l2 : List UInt8} (h : WroteK a w base A n0 A1 n1 c1 l1) (k : WroteK w w' base A1 n1 A2 n2 c2 l2) : WroteK a w' base A n0 A2 n2 c2 l2 := by
  have hsz := h.1.2.1.size
  refine ⟨h.1.trans k.1, ?_, Nat.le_trans h.2.2.1 k.2.2.1, fun b m c l hm hw => ?_⟩
  · rcases k.2.1 with e | ⟨g, e, hg⟩
    · rw [e]; exact h.2.1
    · exact Or.inr ⟨g, e, by omega⟩
  · have hw1 := h.2.2.2 b m c l hm hw
    rcases h.2.1 with e | ⟨g, e, hg⟩
    · subst e
      exact k.2.2.2 b m c l (Nat.le_trans hm h.2.2.1) hw1
    · exact hw1.grown k.1.2.1 fun g' hg' e' => by
        have := hw.blk_lt hg'
        rw [e] at e'
        injection e' with e'
        omega
theorem Wrote.belowW {a w w' : World} {base n c : Nat} {A A' : Option Addr} {l : List UInt8} (h : Wrote a w base A A' n c l) (hb : Below w.heap.size w w') : Wrote a w' base A A' n c l :=
  ⟨h.1.belowH hb, h.2.1.trans (row := blk A) ⟨hb.os, hb.tape, hb.output, hb.size, fun k hk _ => hb.block k hk⟩, h.2.2⟩
theorem WroteK.belowW {a w w' : World} {base n n' c : Nat} {A A' : Option Addr} {l : List UInt8} (h : WroteK a w base A n A' n' c l) (hb : Below w.heap.size w w') : WroteK a w' base A n A' n' c l :=
  ⟨h.1.belowW hb, h.2.1, h.2.2.1, fun b m c l hm hw => (h.2.2.2 b m c l hm hw).belowH hb⟩
theorem run_wrK {w : World} {base n c : Nat} {A : Option Addr} {l : List UInt8} (ty : TypeId) (h : Wr w base A n c l) (hbase : base ≤ w.heap.size) {B m c2 : Nat} {A2 : Option Addr} {news : List UInt8} (hr : Rd w B 1 A2 m (U news)) (hm : 1 ≤ m) (hb : n + m ≤ 70368744177664) :
    ∃ A' c' w', (Builtin.append_ #[28, 28] ty #[.slice A n c, .slice A2 m c2]).run Try.prog w = .ok (.slice A' (n + m) c') w' ∧ WroteK w w' base A n A' (n + m) c' (l ++ news) := by
  obtain ⟨i, hi, hz, hsz, hby⟩ := u8T.parts
  have hnl : news.length = m := by have h1 := hr.len1; rwa [U_length] at h1
  obtain ⟨b2, o2, rfl, _, hc2⟩ := hr.2 (by omega)
  have hnews : ∀ j u, (U news)[j]? = some u → w.cell? ((⟨b2, o2, none⟩ : Addr).add j) = some u := fun j u hu => by
    have hj := (List.getElem?_eq_some_iff.1 hu).1
    rw [show (⟨b2, o2, none⟩ : Addr).add j = ⟨b2, o2 + j, none⟩ by unfold Addr.add; split <;> simp_all, hc2 j hj, hu]
  have hh := h
  obtain ⟨h1, h2, h3, h4⟩ := h
  rcases h4 with ⟨rfl, rfl, rfl⟩ | ⟨g, o, rfl, hg1, hg2, hc, hf⟩
  · obtain ⟨A', c', w', hrun, hw⟩ := run_wr (c2 := c2) ty hh hbase hr hm hb
    refine ⟨A', c', w', hrun, hw, ?_, Nat.zero_le _, fun b0 m0 c0 l0 _ hw0 => ?_⟩
    · rcases hw.2.2 with e | e
      · left
        cases A' with
        | none => rfl
        | some x => cases e
      · exact Or.inr e
    · rcases hw0.2.2.2 with ⟨_, e1, e2⟩ | ⟨_, _, e, _⟩
      · exact ⟨hw0.1, hw0.2.1, hw0.2.2.1, Or.inl ⟨rfl, e1, e2⟩⟩
      · cases e
  · by_cases hroom : n + m ≤ c
    · have hrun := run_append_room_cells (P := Try.prog) w 28 ty 5 i u8T.ht hi g o n c ⟨b2, o2, none⟩ m c2 (U news) (by rw [U_length, hnl, hsz, Nat.mul_one]) hnews (U_one news) hroom
        (fun j hj => by rw [U_length] at hj; rw [hsz, Nat.mul_one, Nat.add_assoc]; exact (hf (n + j) (by omega)).1) (fun j hj => by rw [U_length] at hj; rw [hsz, Nat.mul_one, Nat.add_assoc]; exact (hf (n + j) (by omega)).2)
      rw [hsz, Nat.mul_one] at hrun
      have hst := hh.stored (news := news) (by omega)
      rw [hnl] at hst
      exact ⟨_, _, _, hrun, ⟨hst, grown_setCells g _ _ w, Or.inl rfl⟩, Or.inl rfl, by omega, fun b0 m0 c0 l0 hm0 hw0 => hw0.under (fun j hj => by rw [Nat.add_assoc]; exact (hf (n + j) (by omega)).1) hm0⟩
    · obtain ⟨v', w', hrun, hown, hgr⟩ := run_append_arg_grows (P := Try.prog) w 28 ty 5 i (.int .u8 0) 1 1 u8T.ht hi hz hsz hby rfl (by omega) ⟨g, o, none⟩ n c (U l) (by rw [U_length, h1, Nat.mul_one]) (fun j u hu => by
          have hj := (List.getElem?_eq_some_iff.1 hu).1
          rw [U_length] at hj
          obtain ⟨x, hx⟩ : ∃ x, l[j]? = some x := ⟨_, List.getElem?_eq_getElem hj⟩
          rw [Addr.add_lit, hc j x hx, ← hu, U_get, hx]
          rfl) ⟨b2, o2, none⟩ m c2 (U news) (by rw [U_length, hnl, Nat.mul_one]) hnews (by omega) (by unfold maxLen; omega) (by omega)
      obtain ⟨A', c', rfl⟩ := own_slice hown
      rw [← U_append] at hown
      have hw := Wr.of_own hown
      have hnew : ∃ g, blk A' = some g ∧ w.heap.size ≤ g := by
        rcases hw.2.2.2 with ⟨h5, h6, _⟩ | ⟨g', o', h5, h6, _⟩
        · omega
        · subst h5; exact ⟨g', rfl, h6⟩
      refine ⟨A', c', w', hrun, ⟨⟨hw.1, hw.2.1, hw.2.2.1, ?_⟩, hgr.but _, Or.inr hnew⟩, Or.inr hnew, by omega, fun b0 m0 c0 l0 hm0 hw0 => hw0.grown hgr (fun _ _ => by simp)⟩
      rcases hw.2.2.2 with h5 | ⟨g', o', h5, h6, h7⟩
      · exact Or.inl h5
      · exact Or.inr ⟨g', o', h5, by omega, h7⟩
theorem run_wr_strK {w : World} {base n c : Nat} {A : Option Addr} {l : List UInt8} (ty : TypeId) (h : Wr w base A n c l) (hbase : base ≤ w.heap.size) (news : List UInt8) (hb : n + news.length ≤ 70368744177664) :
    ∃ A' c' w', (Builtin.append_ #[28, 9] ty #[.slice A n c, .string (strB news)]).run Try.prog w = .ok (.slice A' (n + news.length) c') w' ∧ WroteK w w' base A n A' (n + news.length) c' (l ++ news) := by
  obtain ⟨i, hi, hz, hsz, hby⟩ := u8T.parts
  have hss : (strB news).size = news.length := by show (List.toArray news).size = _; simp
  have hsc : Lib.strCells (strB news) = U news := rfl
  have hh := h
  obtain ⟨h1, h2, h3, h4⟩ := h
  rcases h4 with ⟨rfl, rfl, rfl⟩ | ⟨g, o, rfl, hg1, hg2, hc, hf⟩
  · obtain ⟨A', c', w', hrun, hw⟩ := run_wr_str ty hh hbase news hb
    refine ⟨A', c', w', hrun, hw, ?_, Nat.zero_le _, fun b0 m0 c0 l0 _ hw0 => ?_⟩
    · rcases hw.2.2 with e | e
      · left
        cases A' with
        | none => rfl
        | some x => cases e
      · exact Or.inr e
    · rcases hw0.2.2.2 with ⟨_, e1, e2⟩ | ⟨_, _, e, _⟩
      · exact ⟨hw0.1, hw0.2.1, hw0.2.2.1, Or.inl ⟨rfl, e1, e2⟩⟩
      · cases e
  · by_cases hroom : n + news.length ≤ c
    · have hfc := Lib.run_firstCells_string (P := Try.prog) w 1 (strB news)
      have hst := run_storeCells_cells (P := Try.prog) g (o + n) (U news) 0 w (fun j hj => by rw [U_length] at hj; rw [Nat.add_zero, Nat.add_assoc]; exact (hf (n + j) (by omega)).1) (fun j hj => by rw [U_length] at hj; rw [Nat.add_zero, Nat.add_assoc]; exact (hf (n + j) (by omega)).2) (U_one news)
      simp only [Nat.add_zero] at hst
      rw [hss, hsc] at hfc
      have hrun : (Builtin.append_ #[28, 9] ty #[.slice (some ⟨g, o, none⟩) n c, .string (strB news)]).run Try.prog w = .ok (.slice (some ⟨g, o, none⟩) (n + news.length) c) (w.setCells g (o + n) (U news)) := by
        simp [Builtin.append_, run_underlying u8T.ht, run_underlying Try.underlying9, sizeOf, typeInfo, hi, hsz, Builtin.lenOf, hss, hroom, hfc, Addr.add_lit, hst]
      exact ⟨_, _, _, hrun, ⟨hh.stored (by omega), grown_setCells g _ _ w, Or.inl rfl⟩, Or.inl rfl, by omega, fun b0 m0 c0 l0 hm0 hw0 => hw0.under (fun j hj => by rw [Nat.add_assoc]; exact (hf (n + j) (by omega)).1) hm0⟩
    · have hr := Lib.run_append_grow_string (P := Try.prog) w 28 9 ty 5 i (.int .u8 0) u8T.ht Try.underlying9 hi hz ⟨g, o, none⟩ n c (U l) (by rw [U_length, h1, hsz, Nat.mul_one]) (fun j u hu => by
          have hj := (List.getElem?_eq_some_iff.1 hu).1
          rw [U_length] at hj
          obtain ⟨x, hx⟩ : ∃ x, l[j]? = some x := ⟨_, List.getElem?_eq_getElem hj⟩
          rw [Addr.add_lit, hc j x hx, ← hu, U_get, hx]
          rfl) (strB news) (by rw [hss]; omega) (by rw [hss]; omega) (by rw [hby]; exact growslice_fits (by rw [hss]; omega) (by rw [hss]; omega))
      obtain ⟨A', c', w', hrun, hw⟩ := run_wr_str ty hh hbase news hb
      have he := hrun.symm.trans hr
      injection he with he1 he2
      injection he1 with he3 he4 he5
      subst he2
      have hnew : ∃ g, blk A' = some g ∧ w.heap.size ≤ g := ⟨w.heap.size, by rw [he3]; rfl, Nat.le_refl _⟩
      exact ⟨A', c', _, hrun, hw, Or.inr hnew, by omega, fun b0 m0 c0 l0 hm0 hw0 => hw0.grown (row := none) ⟨rfl, rfl, rfl, by simp, fun k hk _ => heap_alloc_old w.drew _ hk⟩ (fun _ _ => by simp)⟩
theorem wrK_law {w : World} {ops : Array Oper} {rest : List Oper} {o : Oper} {a : Act} {Q : Exit → Act → World → Prop} (hgd : o.guard = none) (s x : Operand)
    (ho : o.op = .call { callee := .builtin .append, args := #[s, x], argTypes := #[28, 28] })
    {base n c : Nat} {A : Option Addr} {l : List UInt8} (hs : a.eval s = .slice A n c) (h : Wr w base A n c l) (hbase : base ≤ w.heap.size)
    {B m c2 : Nat} {A2 : Option Addr} {news : List UInt8} (hx : a.eval x = .slice A2 m c2) (hr : Rd w B 1 A2 m (U news)) (hm : 1 ≤ m) (hb : n + m ≤ 70368744177664)
    (k : ∀ A' c' w', WroteK w w' base A n A' (n + m) c' (l ++ news) → wpList Try.prog ops Q rest (a.put o.dst (.slice A' (n + m) c')) w') : wpList Try.prog ops Q (o :: rest) a w := by
  refine wpList_plain hgd fun K hK => ?_
  obtain ⟨A', c', w', hrun, hw⟩ := run_wrK o.type h hbase (c2 := c2) hr hm hb
  unfold Oper.wp execOp
  simp only [ho, resolve, invoke, builtin, Sem.run_bind, Sem.run_pure, Result.andThen_ok, List.map_toArray, List.map_cons, List.map_nil, hs, hx]
  rw [show (Builtin.append_ #[28, 28] o.type #[.slice A n c, .slice A2 m c2]).run Try.prog w = _ from hrun]
  exact hK _ _ (k A' c' w' hw)
theorem wrK_str_step {w : World} {ops : Array Oper} {o : Oper} {a : Act} {K : Act → World → Prop} {Q : Exit → Act → World → Prop} {E : Prop} (hgd : o.guard = none) (s x : Operand)
    (ho : o.op = .call { callee := .builtin .append, args := #[s, x], argTypes := #[28, 9] })
    {base n c : Nat} {A : Option Addr} {l : List UInt8} (hs : a.eval s = .slice A n c) (h : Wr w base A n c l) (hbase : base ≤ w.heap.size)
    {news : List UInt8} (hx : a.eval x = .string (strB news)) (hb : n + news.length ≤ 70368744177664)
    (k : ∀ A' c' w', WroteK w w' base A n A' (n + news.length) c' (l ++ news) → K (a.put o.dst (.slice A' (n + news.length) c')) w') :
    if Region.wanted o (yielded ops a.tmps) = true then Oper.wp Try.prog o a w K Q else E := by
  have hw : Region.wanted o (yielded ops a.tmps) = true := by simp [Region.wanted, hgd]
  rw [if_pos hw]
  obtain ⟨A', c', w', hrun, hwr⟩ := run_wr_strK o.type h hbase news hb
  unfold Oper.wp execOp
  simp only [ho, resolve, invoke, builtin, Sem.run_bind, Sem.run_pure, Result.andThen_ok, List.map_toArray, List.map_cons, List.map_nil, hs, hx]
  rw [show (Builtin.append_ #[28, 9] o.type #[.slice A n c, .string (strB news)]).run Try.prog w = _ from hrun]
  exact k A' c' w' hwr
theorem wrK_str_law {w : World} {ops : Array Oper} {rest : List Oper} {o : Oper} {a : Act} {Q : Exit → Act → World → Prop} (hgd : o.guard = none) (s x : Operand)
    (ho : o.op = .call { callee := .builtin .append, args := #[s, x], argTypes := #[28, 9] })
    {base n c : Nat} {A : Option Addr} {l : List UInt8} (hs : a.eval s = .slice A n c) (h : Wr w base A n c l) (hbase : base ≤ w.heap.size)
    {news : List UInt8} (hx : a.eval x = .string (strB news)) (hb : n + news.length ≤ 70368744177664)
    (k : ∀ A' c' w', WroteK w w' base A n A' (n + news.length) c' (l ++ news) → wpList Try.prog ops Q rest (a.put o.dst (.slice A' (n + news.length) c')) w') : wpList Try.prog ops Q (o :: rest) a w := by
  refine wpList_plain hgd fun K hK => ?_
  obtain ⟨A', c', w', hrun, hw⟩ := run_wr_strK o.type h hbase news hb
  unfold Oper.wp execOp
  simp only [ho, resolve, invoke, builtin, Sem.run_bind, Sem.run_pure, Result.andThen_ok, List.map_toArray, List.map_cons, List.map_nil, hs, hx]
  rw [show (Builtin.append_ #[28, 9] o.type #[.slice A n c, .string (strB news)]).run Try.prog w = _ from hrun]
  exact hK _ _ (k A' c' w' hw)
/-- other bytes over the first ones -/
theorem Wr.over {w : World} {base g o n c : Nat} {l news : List UInt8} (h : Wr w base (some ⟨g, o, none⟩) n c l) (hh : news.length ≤ n) : Wr (w.setCells g o (U news)) base (some ⟨g, o, none⟩) n c (news ++ l.drop news.length) := by
  obtain ⟨h1, h2, h3, h4⟩ := h
  rcases h4 with ⟨e, _⟩ | ⟨g', o', e, hb, hlt, hc, hf⟩
  · cases e
  obtain ⟨rfl, rfl⟩ : g = g' ∧ o = o' := by simpa using e
  have hin := fun j hj => World.cell?_setCells_in g (U news) o w (fun i hi => by rw [U_length] at hi; exact (hf i (by omega)).1) j hj
  refine ⟨by rw [List.length_append, List.length_drop, h1]; omega, h2, h3, Or.inr ⟨g, o, rfl, hb, Nat.lt_of_lt_of_le hlt (grown_setCells g (U news) o w).size, fun j x hx => ?_, fun j hj => ?_⟩⟩
  · by_cases hj : j < news.length
    · rw [List.getElem?_append_left hj] at hx
      rw [hin j (by rw [U_length]; exact hj)]
      have h6 := U_get news j
      rw [hx] at h6
      rw [List.getElem?_eq_getElem (by rw [U_length]; exact hj)] at h6
      exact h6
    · rw [List.getElem?_append_right (by omega), List.getElem?_drop] at hx
      rw [World.cell?_setCells_out g (U news) o w ⟨g, o + j, none⟩ (fun _ _ => Or.inr (by show o + (U news).length ≤ o + j; rw [U_length]; omega))]
      exact hc j x (by rw [← hx]; congr 1; omega)
  · obtain ⟨f1, f2⟩ := hf j hj
    refine ⟨?_, by rw [World.frozen?_setCells]; exact f2⟩
    by_cases hj2 : j < news.length
    · rw [hin j (by rw [U_length]; exact hj2)]; rfl
    · rw [World.cell?_setCells_out g (U news) o w ⟨g, o + j, none⟩ (fun _ _ => Or.inr (by show o + (U news).length ≤ o + j; rw [U_length]; omega))]
      exact f1
/-- copy over the first bytes -/
theorem run_wr_copy {w : World} (ty : TypeId) {base n c : Nat} {A : Option Addr} {l : List UInt8} (h : Wr w base A n c l) {B m c2 : Nat} {A2 : Option Addr} {news : List UInt8} (hr : Rd w B 1 A2 m (U news)) (hm : 1 ≤ m) (hmn : m ≤ n) :
    ∃ w', (Builtin.copy_ #[28, 28] ty #[.slice A n c, .slice A2 m c2]).run Try.prog w = .ok (.int .i64 (m : Int)) w' ∧ Wrote w w' base A A n c (news ++ l.drop m) := by
  have hnl : news.length = m := by have h1 := hr.len1; rwa [U_length] at h1
  obtain ⟨b2, o2, rfl, _, hc2⟩ := hr.2 (by omega)
  have hnews : ∀ j u, (U news)[j]? = some u → w.cell? ((⟨b2, o2, none⟩ : Addr).add j) = some u := fun j u hu => by
    have hj := (List.getElem?_eq_some_iff.1 hu).1
    rw [show (⟨b2, o2, none⟩ : Addr).add j = ⟨b2, o2 + j, none⟩ by unfold Addr.add; split <;> simp_all, hc2 j hj, hu]
  have h0 := h
  rcases h0.2.2.2 with ⟨_, e, _⟩ | ⟨g, o', rfl, hb, hlt, hc, hf⟩
  · omega
  have hcn := h.2.1
  have hrun := run_copy_cells (P := Try.prog) w 28 28 ty 5 g o' n c ⟨b2, o2, none⟩ m c2 (U news) Try.underlying28 (by kernel_rfl) (by rw [U_length, hnl]; exact (Nat.min_eq_left hmn).symm) hnews
    (fun j hj => by rw [U_length] at hj; exact (hf j (by omega)).1) (fun j hj => by rw [U_length] at hj; exact (hf j (by omega)).2) (U_one news)
  have hov := h.over (news := news) (by omega)
  rw [hnl] at hov
  rw [U_length, hnl] at hrun
  exact ⟨_, hrun, hov, grown_setCells g (U news) o' w, Or.inl rfl⟩
end Go.Proofs.Ytbioblknhfmelaa

