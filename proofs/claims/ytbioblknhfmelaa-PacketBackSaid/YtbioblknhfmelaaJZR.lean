/- ZRow ZRow2 ZRow3 ZLay4 ZRow4 (merged). -/
import Derived.ArgAppend
import Derived.Lib.AppendStr
import Derived.Laws.IdiomCopy
import Derived.Maps.Range
import Derived.Deep.Upon
import Derived.Test.YtbioblknhfmelaaJBase
import Derived.Test.YtbioblknhfmelaaJZMem
namespace Go.Proofs.Ytbioblknhfmelaa
set_option linter.unusedVariables false
set_option linter.unusedSimpArgs false
open Go.RowKit
/-- n bytes in a row of c that may be written, in a block from base on -/
def Wr (w : World) (base : Nat) (A : Option Addr) (n c : Nat) (l : List UInt8) : Prop :=
  l.length = n ∧ n ≤ c ∧ c ≤ 9223372036854775807 ∧ ((A = none ∧ n = 0 ∧ c = 0) ∨ ∃ g o, A = some ⟨g, o, none⟩ ∧ base ≤ g ∧ g < w.heap.size ∧ (∀ j x, l[j]? = some x → w.cell? ⟨g, o + j, none⟩ = some (.int .u8 (x.toNat : Int))) ∧ ∀ j, j < c → (w.cell? ⟨g, o + j, none⟩).isSome = true ∧ w.frozen? ⟨g, o + j, none⟩ = false)
def blk (A : Option Addr) : Option Nat := A.map (·.block)
theorem Wr.nil (w : World) (base : Nat) : Wr w base none 0 0 [] := ⟨rfl, by omega, by omega, Or.inl ⟨rfl, rfl, rfl⟩⟩
theorem Wr.rd {w : World} {base n c : Nat} {A : Option Addr} {l : List UInt8} (h : Wr w base A n c l) : Rd w w.heap.size 1 A n (U l) := by
  obtain ⟨h1, h2, h3, h4⟩ := h
  refine ⟨by rw [U_length, h1, Nat.mul_one], fun hn => ?_⟩
  rcases h4 with ⟨_, h0, _⟩ | ⟨g, o, rfl, _, hg, hc, _⟩
  · exact absurd h0 hn
  · refine ⟨g, o, rfl, hg, fun j hj => ?_⟩
    rw [U_length] at hj
    obtain ⟨x, hx⟩ : ∃ x, l[j]? = some x := ⟨_, List.getElem?_eq_getElem hj⟩
    rw [hc j x hx, U_get, hx]
    rfl
theorem Wr.of_own {w : World} {base n c : Nat} {A : Option Addr} {l : List UInt8} (h : w.ownsRow base 5 1 (.slice A n c) n (U l)) : Wr w base A n c l := by
  have hl : l.length = n := by have h1 := h.1; rw [U_length, Nat.mul_one] at h1; exact h1
  have hcap := own_cap h
  refine ⟨hl, hcap.1, hcap.2, ?_⟩
  rcases h.2 with ⟨e1, h0⟩ | ⟨g, cap, cur, hv, hb, hg, h1, h2, h3, h4⟩
  · left; simpa [h0] using e1
  · obtain ⟨rfl, rfl⟩ : A = some ⟨g, 0, none⟩ ∧ c = cap := by simpa using hv
    refine Or.inr ⟨g, 0, rfl, hb, lt_of_block hg, fun j x hx => ?_, fun j hj => ?_⟩
    · have hj := (List.getElem?_eq_some_iff.1 hx).1
      rw [Nat.zero_add, h.cellAt j (by omega), U_get, hx]
      rfl
    · rw [Nat.zero_add]
      refine ⟨?_, h.frozenAt j⟩
      rw [cell_of_row w g j cur _ (0, 0) hg, Array.getElem?_eq_getElem (by omega)]
      rfl
theorem Wr.grown {w w' : World} {base n c : Nat} {A : Option Addr} {l : List UInt8} {row : Option Nat} (h : Wr w base A n c l) (hg : w.grownBy w' row) (hne : ∀ g, blk A = some g → row ≠ some g) : Wr w' base A n c l := by
  obtain ⟨h1, h2, h3, h4⟩ := h
  refine ⟨h1, h2, h3, ?_⟩
  rcases h4 with h0 | ⟨g, o, rfl, hb, hlt, hc, hf⟩
  · exact Or.inl h0
  · have hblk := hg.block g hlt (fun e => hne g rfl e.symm)
    refine Or.inr ⟨g, o, rfl, hb, Nat.lt_of_lt_of_le hlt hg.size, fun j x hx => ?_, fun j hj => ?_⟩
    · rw [World.cell?_of_block (a := ⟨g, o + j, none⟩) hblk]; exact hc j x hx
    · obtain ⟨f1, f2⟩ := hf j hj
      refine ⟨by rw [World.cell?_of_block (a := ⟨g, o + j, none⟩) hblk]; exact f1, ?_⟩
      rw [← f2]
      unfold World.frozen?
      rw [show w'.heap[(⟨g, o + j, none⟩ : Addr).block]? = w.heap[(⟨g, o + j, none⟩ : Addr).block]? from hblk]
theorem grown_setCells (b : Nat) : ∀ (vs : List Value) (o : Nat) (w : World), w.grownBy (w.setCells b o vs) (some b)
  | [], _, w => World.grownBy.refl w _
  | v :: vs, o, w => by
    have h1 : w.grownBy (w.setCell ⟨b, o, none⟩ v) (some b) := ⟨rfl, rfl, rfl, by simp, fun k hk hne => heap_setCell_other w ⟨b, o, none⟩ k v (fun e => hne (by rw [e]))⟩
    exact h1.trans (grown_setCells b vs (o + 1) _)
/-- behind a store of bytes behind what there is -/
theorem Wr.stored {w : World} {base g o n c : Nat} {l news : List UInt8} (h : Wr w base (some ⟨g, o, none⟩) n c l) (hroom : n + news.length ≤ c) : Wr (w.setCells g (o + n) (U news)) base (some ⟨g, o, none⟩) (n + news.length) c (l ++ news) := by
  obtain ⟨h1, h2, h3, h4⟩ := h
  rcases h4 with ⟨e, _⟩ | ⟨g', o', e, hb, hlt, hc, hf⟩
  · cases e
  obtain ⟨rfl, rfl⟩ : g = g' ∧ o = o' := by simpa using e
  refine ⟨by rw [List.length_append, h1], hroom, h3, Or.inr ⟨g, o, rfl, hb, Nat.lt_of_lt_of_le hlt (grown_setCells g (U news) (o + n) w).size, fun j x hx => ?_, fun j hj => ?_⟩⟩
  · by_cases hj : j < n
    · rw [List.getElem?_append_left (by omega)] at hx
      rw [World.cell?_setCells_out g (U news) (o + n) w ⟨g, o + j, none⟩ (fun _ _ => Or.inl (by show o + j < o + n; omega))]
      exact hc j x hx
    · rw [List.getElem?_append_right (by omega), h1] at hx
      have hjn := (List.getElem?_eq_some_iff.1 hx).1
      have h5 := World.cell?_setCells_in g (U news) (o + n) w (fun i hi => by rw [U_length] at hi; rw [show o + n + i = o + (n + i) by omega]; exact (hf (n + i) (by omega)).1) (j - n) (by rw [U_length]; exact hjn)
      rw [show o + n + (j - n) = o + j by omega] at h5
      rw [h5]
      have h6 := U_get news (j - n)
      rw [hx] at h6
      rw [List.getElem?_eq_getElem (by rw [U_length]; exact hjn)] at h6
      exact h6
  · obtain ⟨f1, f2⟩ := hf j hj
    refine ⟨?_, by rw [World.frozen?_setCells]; exact f2⟩
    by_cases hj2 : n ≤ j ∧ j < n + news.length
    · have h5 := World.cell?_setCells_in g (U news) (o + n) w (fun i hi => by rw [U_length] at hi; rw [show o + n + i = o + (n + i) by omega]; exact (hf (n + i) (by omega)).1) (j - n) (by rw [U_length]; omega)
      rw [show o + n + (j - n) = o + j by omega] at h5
      rw [h5]
      rfl
    · rw [World.cell?_setCells_out g (U news) (o + n) w ⟨g, o + j, none⟩ (fun _ _ => by show o + j < o + n ∨ o + n + (U news).length ≤ o + j; rw [U_length]; omega)]
      exact f1
/-- what append leaves -/
def Wrote (w w' : World) (base : Nat) (A A' : Option Addr) (n c' : Nat) (l : List UInt8) : Prop := Wr w' base A' n c' l ∧ w.grownBy w' (blk A) ∧ (blk A' = blk A ∨ ∃ g, blk A' = some g ∧ w.heap.size ≤ g)
theorem run_wr {w : World} {base n c : Nat} {A : Option Addr} {l : List UInt8} (ty : TypeId) (h : Wr w base A n c l) (hbase : base ≤ w.heap.size) {B m c2 : Nat} {A2 : Option Addr} {news : List UInt8} (hr : Rd w B 1 A2 m (U news)) (hm : 1 ≤ m) (hb : n + m ≤ 70368744177664) :
    ∃ A' c' w', (Builtin.append_ #[28, 28] ty #[.slice A n c, .slice A2 m c2]).run Try.prog w = .ok (.slice A' (n + m) c') w' ∧ Wrote w w' base A A' (n + m) c' (l ++ news) := by
  obtain ⟨i, hi, hz, hsz, hby⟩ := u8T.parts
  have hnl : news.length = m := by have h1 := hr.len1; rwa [U_length] at h1
  obtain ⟨b2, o2, rfl, _, hc2⟩ := hr.2 (by omega)
  have hnews : ∀ j u, (U news)[j]? = some u → w.cell? ((⟨b2, o2, none⟩ : Addr).add j) = some u := fun j u hu => by
    have hj := (List.getElem?_eq_some_iff.1 hu).1
    rw [show (⟨b2, o2, none⟩ : Addr).add j = ⟨b2, o2 + j, none⟩ by unfold Addr.add; split <;> simp_all, hc2 j hj, hu]
  have hh := h
  obtain ⟨h1, h2, h3, h4⟩ := h
  rcases h4 with ⟨rfl, rfl, rfl⟩ | ⟨g, o, rfl, hg1, hg2, hc, hf⟩
  · obtain rfl : l = [] := List.eq_nil_of_length_eq_zero h1
    obtain ⟨A', c', w', hrun, ha⟩ := run_app (P := Try.prog) w u8T ty (World.ownsRow_nil w base 5 1) (c := c2) hr (U_one news) (by omega) (by omega) hbase
    refine ⟨A', c', w', hrun, Wr.of_own (by have h5 := ha.own; rw [List.nil_append] at h5; exact h5), ha.grown, ?_⟩
    rcases ha.loc with h5 | h5
    · left
      have h6 : (Value.slice A' (0 + m) c').ownBlock = none := h5
      cases A' with
      | none => rfl
      | some a => simp [Value.ownBlock] at h6
    · right
      cases A' with
      | none => simp [Value.ownBlock] at h5
      | some a => simp [Value.ownBlock] at h5; exact ⟨a.block, rfl, by omega⟩
  · by_cases hroom : n + m ≤ c
    · have hrun := run_append_room_cells (P := Try.prog) w 28 ty 5 i u8T.ht hi g o n c ⟨b2, o2, none⟩ m c2 (U news) (by rw [U_length, hnl, hsz, Nat.mul_one]) hnews (U_one news) hroom
        (fun j hj => by rw [U_length] at hj; rw [hsz, Nat.mul_one, Nat.add_assoc]; exact (hf (n + j) (by omega)).1) (fun j hj => by rw [U_length] at hj; rw [hsz, Nat.mul_one, Nat.add_assoc]; exact (hf (n + j) (by omega)).2)
      rw [hsz, Nat.mul_one] at hrun
      have hst := hh.stored (news := news) (by omega)
      rw [hnl] at hst
      exact ⟨_, _, _, hrun, hst, grown_setCells g _ _ w, Or.inl rfl⟩
    · obtain ⟨v', w', hrun, hown, hgr⟩ := run_append_arg_grows (P := Try.prog) w 28 ty 5 i (.int .u8 0) 1 1 u8T.ht hi hz hsz hby rfl (by omega) ⟨g, o, none⟩ n c (U l) (by rw [U_length, h1, Nat.mul_one]) (fun j u hu => by
          have hj := (List.getElem?_eq_some_iff.1 hu).1
          rw [U_length] at hj
          obtain ⟨x, hx⟩ : ∃ x, l[j]? = some x := ⟨_, List.getElem?_eq_getElem hj⟩
          rw [Addr.add_lit, hc j x hx, ← hu, U_get, hx]
          rfl) ⟨b2, o2, none⟩ m c2 (U news) (by rw [U_length, hnl, Nat.mul_one]) hnews (by omega) (by unfold maxLen; omega) (by omega)
      obtain ⟨A', c', rfl⟩ := own_slice hown
      rw [← U_append] at hown
      have hw := Wr.of_own hown
      refine ⟨A', c', w', hrun, ⟨hw.1, hw.2.1, hw.2.2.1, ?_⟩, hgr.but _, ?_⟩
      · rcases hw.2.2.2 with h5 | ⟨g', o', h5, h6, h7⟩
        · exact Or.inl h5
        · exact Or.inr ⟨g', o', h5, by omega, h7⟩
      · rcases hw.2.2.2 with ⟨h5, h6, _⟩ | ⟨g', o', h5, h6, _⟩
        · omega
        · right; subst h5; exact ⟨g', rfl, h6⟩
end Go.Proofs.Ytbioblknhfmelaa

namespace Go.Proofs.Ytbioblknhfmelaa
set_option linter.unusedVariables false
set_option linter.unusedSimpArgs false
open Go.RowKit
theorem Wrote.trans {a w w' : World} {base n1 n2 c1 c2 : Nat} {A A1 A2 : Option Addr} {l1 l2 : List UInt8} (h : Wrote a w base A A1 n1 c1 l1) (k : Wrote w w' base A1 A2 n2 c2 l2) : Wrote a w' base A A2 n2 c2 l2 := by
  obtain ⟨h1, h2, h3⟩ := h
  obtain ⟨k1, k2, k3⟩ := k
  have hsz := h2.size
  refine ⟨k1, h2.andThen k2 fun j hj => ?_, ?_⟩
  · rcases h3 with h3 | ⟨g, hg, hge⟩
    · right; rw [← h3]; exact hj
    · left
      rw [hg] at hj
      injection hj with hj
      omega
  · rcases k3 with k3 | ⟨g, hg, hge⟩
    · rw [k3]; exact h3
    · exact Or.inr ⟨g, hg, by omega⟩
theorem Wrote.start {w : World} {base n c : Nat} {A : Option Addr} {l : List UInt8} (h : Wr w base A n c l) : Wrote w w base A A n c l := ⟨h, World.grownBy.refl _ _, Or.inl rfl⟩
theorem Wrote.alloc {a w : World} {base n c : Nat} {A A1 : Option Addr} {l : List UInt8} (h : Wrote a w base A A1 n c l) (o : Obj) : Wrote a (w.alloc o) base A A1 n c l :=
  ⟨h.1.grown (World.grownBy_alloc w o none) (fun _ _ => by simp), h.2.1.trans (World.grownBy_alloc w o _), h.2.2⟩
theorem Wr.alloc {w : World} {base n c : Nat} {A : Option Addr} {l : List UInt8} (h : Wr w base A n c l) (o : Obj) : Wr (w.alloc o) base A n c l := h.grown (World.grownBy_alloc w o none) (fun _ _ => by simp)
/-- append at the list of a plain region's operations -/
theorem wr_law {w : World} {ops : Array Oper} {rest : List Oper} {o : Oper} {a : Act} {Q : Exit → Act → World → Prop} (hgd : o.guard = none) (s x : Operand)
    (ho : o.op = .call { callee := .builtin .append, args := #[s, x], argTypes := #[28, 28] })
    {base n c : Nat} {A : Option Addr} {l : List UInt8} (hs : a.eval s = .slice A n c) (h : Wr w base A n c l) (hbase : base ≤ w.heap.size)
    {B m c2 : Nat} {A2 : Option Addr} {news : List UInt8} (hx : a.eval x = .slice A2 m c2) (hr : Rd w B 1 A2 m (U news)) (hm : 1 ≤ m) (hb : n + m ≤ 70368744177664)
    (k : ∀ A' c' w', Wrote w w' base A A' (n + m) c' (l ++ news) → wpList Try.prog ops Q rest (a.put o.dst (.slice A' (n + m) c')) w') : wpList Try.prog ops Q (o :: rest) a w := by
  refine wpList_plain hgd fun K hK => ?_
  obtain ⟨A', c', w', hrun, hw⟩ := run_wr o.type h hbase (c2 := c2) hr hm hb
  unfold Oper.wp execOp
  simp only [ho, resolve, invoke, builtin, Sem.run_bind, Sem.run_pure, Result.andThen_ok, List.map_toArray, List.map_cons, List.map_nil, hs, hx]
  rw [show (Builtin.append_ #[28, 28] o.type #[.slice A n c, .slice A2 m c2]).run Try.prog w = _ from hrun]
  exact hK _ _ (k A' c' w' hw)
set_option maxHeartbeats 2000000 in
set_option maxRecDepth 20000 in
theorem rlay2_any (A : Option Addr) (n c base : Nat) (l : List UInt8) (v : Int) (w : World) (h : Wr w base A n c l) (hbase : base ≤ w.heap.size) (hn : n ≤ 35184372088832) (hv : 0 ≤ v ∧ v ≤ 9223372036854775807) :
    Calls Try.prog 24 #[.slice A n c, .int .i64 v, .int .i64 2] w fun e w' => ∃ A' c', e = .returned (.slice A' (n + 2) c') ∧ Wrote w w' base A A' (n + 2) c' (l ++ Pk.b2 v.toNat) := by
  obtain ⟨x1, hx1⟩ : ∃ x, UInt8.ofNat (v.toNat / 256) = x := ⟨_, rfl⟩
  obtain ⟨x0, hx0⟩ : ∃ x, UInt8.ofNat v.toNat = x := ⟨_, rfl⟩
  have e1 : ((x1.toNat : Nat) : Int) = v / 256 % 256 := by rw [← hx1, UInt8.toNat_ofNat']; omega
  have e0 : ((x0.toNat : Nat) : Int) = v % 256 := by rw [← hx0, UInt8.toNat_ofNat']; omega
  have HB : Hid (Pk.b2 v.toNat = [x1, x0]) := Lib.hid (by unfold Pk.b2; rw [hx1, hx0])
  have HU1 : Hid (U [x1] = [.int .u8 (v / 256 % 256)]) := Lib.hid (by show [Value.int .u8 (x1.toNat : Int)] = _; rw [e1])
  have HU0 : Hid (U [x0] = [.int .u8 (v % 256)]) := Lib.hid (by show [Value.int .u8 (x0.toNat : Int)] = _; rw [e0])
  clear hx1 hx0 e1 e0
  go_enter Try.func24, Try.ntmps24
  go_wp2
  go_loopw [0, 7] (fun b i wr => ∃ (A' : Option Addr) (n' c' : Nat) (l' : List UInt8), b = .slice A' n' c' ∧ Wrote w wr base A A' n' c' l' ∧ ((i = .int .i64 1 ∧ n' = n ∧ Hid (l' = l)) ∨ (i = .int .i64 0 ∧ n' = n + 1 ∧ Hid (l' = l ++ [x1])) ∨ (i = .int .i64 (-1) ∧ n' = n + 2 ∧ Hid (l' = l ++ [x1, x0])))) (fun _ i _ => (intOf i + 1).toNat)
  case atStart => exact ⟨A, n, c, l, rfl, Wrote.start h, Or.inl ⟨rfl, rfl, Lib.hid rfl⟩⟩
  case round =>
    obtain ⟨A', n', c', l', rfl, hw, hi⟩ := hrel
    have hsz := hw.2.1.size
    rcases hi with ⟨rfl, rfl, hl'⟩ | ⟨rfl, rfl, hl'⟩ | ⟨rfl, rfl, hl'⟩
    · go_wp2_with (at_builtin; refine wr_law rfl (.tmp 14) (.tmp 21) rfl rfl (hw.alloc _).1 (by simp; omega) rfl (news := [x1]) (by rw [HU1.out]; exact Rd.one _ _ _) (by omega) (by omega) ?_; rintro A2 c2 w2 hw2)
      go_roundw
      case rel => exact ⟨A2, _, c2, _, rfl, (hw.alloc _).trans hw2, Or.inr (Or.inl ⟨by go_num, by omega, Lib.hid (by rw [hl'.out])⟩)⟩
      case measure => simp [intOf]
    · go_wp2_with (at_builtin; refine wr_law rfl (.tmp 14) (.tmp 21) rfl rfl (hw.alloc _).1 (by simp; omega) rfl (news := [x0]) (by rw [HU0.out]; exact Rd.one _ _ _) (by omega) (by omega) ?_; rintro A2 c2 w2 hw2)
      go_roundw
      case rel => exact ⟨A2, _, c2, _, rfl, (hw.alloc _).trans hw2, Or.inr (Or.inr ⟨by go_num, by omega, Lib.hid (by rw [hl'.out, List.append_assoc]; rfl)⟩)⟩
      case measure => simp [intOf]
    · go_wp2
      go_ret
      exact ⟨A', c', rfl, by rw [HB.out, ← hl'.out]; exact hw⟩
end Go.Proofs.Ytbioblknhfmelaa

namespace Go.Proofs.Ytbioblknhfmelaa
set_option linter.unusedVariables false
set_option linter.unusedSimpArgs false
open Go.RowKit
theorem run_wr_str {w : World} {base n c : Nat} {A : Option Addr} {l : List UInt8} (ty : TypeId) (h : Wr w base A n c l) (hbase : base ≤ w.heap.size) (news : List UInt8) (hb : n + news.length ≤ 70368744177664) :
    ∃ A' c' w', (Builtin.append_ #[28, 9] ty #[.slice A n c, .string (strB news)]).run Try.prog w = .ok (.slice A' (n + news.length) c') w' ∧ Wrote w w' base A A' (n + news.length) c' (l ++ news) := by
  obtain ⟨i, hi, hz, hsz, hby⟩ := u8T.parts
  have hss : (strB news).size = news.length := by show (List.toArray news).size = _; simp
  have hsc : Lib.strCells (strB news) = U news := rfl
  have hh := h
  obtain ⟨h1, h2, h3, h4⟩ := h
  rcases h4 with ⟨rfl, rfl, rfl⟩ | ⟨g, o, rfl, hg1, hg2, hc, hf⟩
  · obtain rfl : l = [] := List.eq_nil_of_length_eq_zero h1
    obtain ⟨v', w', hrun, hown, hgr, _⟩ := Lib.run_append_own_string (P := Try.prog) w w.heap.size 28 9 ty 5 i u8T.ht Try.underlying9 hi hz hsz hby (.slice none 0 0) 0 [] (World.ownsRow_nil w w.heap.size 5 1) (strB news) (by rw [hss]; unfold maxLen; omega) (by rw [hss]; omega) (Nat.le_refl _)
    rw [hss, hsc] at *
    obtain ⟨A', c', rfl⟩ := own_slice hown
    have hw := Wr.of_own (by rw [List.nil_append] at hown; exact hown)
    have hg0 : w.grownBy w' none := hgr
    refine ⟨A', c', w', hrun, ⟨hw.1, hw.2.1, hw.2.2.1, ?_⟩, hg0, ?_⟩
    · rcases hw.2.2.2 with h5 | ⟨g', o', h5, h6, h7⟩
      · exact Or.inl h5
      · exact Or.inr ⟨g', o', h5, by omega, h7⟩
    · rcases hw.2.2.2 with ⟨h5, _⟩ | ⟨g', o', h5, h6, h7, _⟩
      · left; rw [h5]
      · right; subst h5; exact ⟨g', rfl, h6⟩
  · by_cases hroom : n + news.length ≤ c
    · have hfc := Lib.run_firstCells_string (P := Try.prog) w 1 (strB news)
      have hst := run_storeCells_cells (P := Try.prog) g (o + n) (U news) 0 w (fun j hj => by rw [U_length] at hj; rw [Nat.add_zero, Nat.add_assoc]; exact (hf (n + j) (by omega)).1) (fun j hj => by rw [U_length] at hj; rw [Nat.add_zero, Nat.add_assoc]; exact (hf (n + j) (by omega)).2) (U_one news)
      simp only [Nat.add_zero] at hst
      rw [hss, hsc] at hfc
      have hrun : (Builtin.append_ #[28, 9] ty #[.slice (some ⟨g, o, none⟩) n c, .string (strB news)]).run Try.prog w = .ok (.slice (some ⟨g, o, none⟩) (n + news.length) c) (w.setCells g (o + n) (U news)) := by
        simp [Builtin.append_, run_underlying u8T.ht, run_underlying Try.underlying9, sizeOf, typeInfo, hi, hsz, Builtin.lenOf, hss, hroom, hfc, Addr.add_lit, hst]
      exact ⟨_, _, _, hrun, hh.stored (by omega), grown_setCells g _ _ w, Or.inl rfl⟩
    · have hr := Lib.run_append_grow_string (P := Try.prog) w 28 9 ty 5 i (.int .u8 0) u8T.ht Try.underlying9 hi hz ⟨g, o, none⟩ n c (U l) (by rw [U_length, h1, hsz, Nat.mul_one]) (fun j u hu => by
          have hj := (List.getElem?_eq_some_iff.1 hu).1
          rw [U_length] at hj
          obtain ⟨x, hx⟩ : ∃ x, l[j]? = some x := ⟨_, List.getElem?_eq_getElem hj⟩
          rw [Addr.add_lit, hc j x hx, ← hu, U_get, hx]
          rfl) (strB news) (by rw [hss]; omega) (by rw [hss]; omega) (by rw [hby]; exact growslice_fits (by rw [hss]; omega) (by rw [hss]; omega))
      have hge := grownCap_ge w (n + (strB news).size) c 5
      have hcm : grownCap w (n + (strB news).size) c 5 ≤ maxLen := grownCap_le_maxLen w (n + (strB news).size) c 5 (by rw [hss]; unfold maxLen; omega)
      have hz1 : (Value.int IntKind.u8 0).cells.size = 1 := rfl
      have hown : (w.drew.alloc (.cells ((U l).toArray ++ (Lib.strCells (strB news)).toArray ++ Builtin.zeroCells (Value.int .u8 0).cells (grownCap w (n + (strB news).size) c 5 - (n + (strB news).size))) 5)).ownsRow w.heap.size 5 1 (.slice (some ⟨w.heap.size, 0, none⟩) (n + (strB news).size) (grownCap w (n + (strB news).size) c 5)) (n + (strB news).size) (U (l ++ news)) := by
        refine ⟨by rw [U_length, List.length_append, h1, hss, Nat.mul_one], .inr ⟨w.heap.size, _, _, rfl, Nat.le_refl _, heap_alloc_new w.drew _, hge, hcm, ?_, ?_⟩⟩
        · simp only [Array.size_append, List.size_toArray, size_zeroCells, hz1, U_length, h1, Lib.strCells_length]
          omega
        · simp only [Array.toList_append, List.append_assoc]
          rw [hsc, ← List.append_assoc, U_append, show (n + (strB news).size) * 1 = (U l ++ U news).length by rw [List.length_append, U_length, U_length, h1, hss, Nat.mul_one]]
          exact List.take_left
      rw [hss] at hr hown
      have hw := Wr.of_own hown
      refine ⟨_, _, _, hr, ⟨hw.1, hw.2.1, hw.2.2.1, ?_⟩, ⟨rfl, rfl, rfl, by simp, fun k hk _ => heap_alloc_old w.drew _ hk⟩, Or.inr ⟨_, rfl, Nat.le_refl _⟩⟩
      rcases hw.2.2.2 with h5 | ⟨g', o', h5, h6, h7⟩
      · exact Or.inl h5
      · exact Or.inr ⟨g', o', h5, by omega, h7⟩
/-- append of a text at the list of a plain region's operations -/
theorem wr_str_law {w : World} {ops : Array Oper} {rest : List Oper} {o : Oper} {a : Act} {Q : Exit → Act → World → Prop} (hgd : o.guard = none) (s x : Operand)
    (ho : o.op = .call { callee := .builtin .append, args := #[s, x], argTypes := #[28, 9] })
    {base n c : Nat} {A : Option Addr} {l : List UInt8} (hs : a.eval s = .slice A n c) (h : Wr w base A n c l) (hbase : base ≤ w.heap.size)
    {news : List UInt8} (hx : a.eval x = .string (strB news)) (hb : n + news.length ≤ 70368744177664)
    (k : ∀ A' c' w', Wrote w w' base A A' (n + news.length) c' (l ++ news) → wpList Try.prog ops Q rest (a.put o.dst (.slice A' (n + news.length) c')) w') : wpList Try.prog ops Q (o :: rest) a w := by
  refine wpList_plain hgd fun K hK => ?_
  obtain ⟨A', c', w', hrun, hw⟩ := run_wr_str o.type h hbase news hb
  unfold Oper.wp execOp
  simp only [ho, resolve, invoke, builtin, Sem.run_bind, Sem.run_pure, Result.andThen_ok, List.map_toArray, List.map_cons, List.map_nil, hs, hx]
  rw [show (Builtin.append_ #[28, 9] o.type #[.slice A n c, .string (strB news)]).run Try.prog w = _ from hrun]
  exact hK _ _ (k A' c' w' hw)
/-- a text's own bytes -/
theorem Wr.text (w : World) (l : List UInt8) (h : l.length ≤ 140737488355328) : Wr (w.drew.alloc (strO w (strB l))) w.heap.size (some ⟨w.heap.size, 0, none⟩) l.length (strC w (strB l)) l := by
  have hss : (strB l).size = l.length := by show (List.toArray l).size = _; simp
  have hge := strC_ge w (strB l)
  have hle := strC_le w (strB l) (by rw [hss]; unfold maxLen; omega)
  have hsz : (bytesRow (strB l) (strC w (strB l))).size = strC w (strB l) := by
    unfold bytesRow
    rw [Array.size_append, Array.size_map, Array.size_replicate]
    have : (strB l).data.size = (strB l).size := rfl
    omega
  refine ⟨rfl, by omega, by unfold maxLen at hle; omega, Or.inr ⟨w.heap.size, 0, rfl, Nat.le_refl _, by simp, fun j x hx => ?_, fun j hj => ?_⟩⟩
  · have hj := (List.getElem?_eq_some_iff.1 hx).1
    have h1 := (Rd.bytes w l).2 (by omega)
    obtain ⟨b, o, e, _, hc⟩ := h1
    obtain ⟨rfl, rfl⟩ : w.heap.size = b ∧ 0 = o := by simpa using e
    rw [hc j (by rw [U_length]; exact hj), U_get, hx]
    rfl
  · have h1 := cell_of_row (w.drew.alloc (strO w (strB l))) w.heap.size j _ _ _ (heap_alloc_new w.drew _)
    rw [Nat.zero_add]
    refine ⟨by rw [h1, Array.getElem?_eq_getElem (by omega)]; rfl, ?_⟩
    unfold World.frozen?
    rw [show (w.drew.alloc (strO w (strB l))).heap[(⟨w.heap.size, j, none⟩ : Addr).block]? = some (strO w (strB l)) from heap_alloc_new w.drew _]
    unfold strO
    rw [hsz]
    simp
    omega
end Go.Proofs.Ytbioblknhfmelaa

namespace Go.Proofs.Ytbioblknhfmelaa
set_option linter.unusedVariables false
set_option linter.unusedSimpArgs false
open Go.RowKit
set_option maxHeartbeats 4000000 in
set_option maxRecDepth 20000 in
theorem rlay4_any (A : Option Addr) (n c base : Nat) (l : List UInt8) (v : Int) (w : World) (h : Wr w base A n c l) (hbase : base ≤ w.heap.size) (hn : n ≤ 35184372088832) (hv : 0 ≤ v ∧ v ≤ 9223372036854775807) :
    Calls Try.prog 24 #[.slice A n c, .int .i64 v, .int .i64 4] w fun e w' => ∃ A' c', e = .returned (.slice A' (n + 4) c') ∧ Wrote w w' base A A' (n + 4) c' (l ++ Pk.b4 v.toNat) := by
  obtain ⟨x3, hx3⟩ : ∃ x, UInt8.ofNat (v.toNat / 16777216) = x := ⟨_, rfl⟩
  have ex3 : ((x3.toNat : Nat) : Int) = v / 16777216 % 256 := by rw [← hx3, UInt8.toNat_ofNat']; omega
  obtain ⟨x2, hx2⟩ : ∃ x, UInt8.ofNat (v.toNat / 65536) = x := ⟨_, rfl⟩
  have ex2 : ((x2.toNat : Nat) : Int) = v / 65536 % 256 := by rw [← hx2, UInt8.toNat_ofNat']; omega
  obtain ⟨x1, hx1⟩ : ∃ x, UInt8.ofNat (v.toNat / 256) = x := ⟨_, rfl⟩
  have ex1 : ((x1.toNat : Nat) : Int) = v / 256 % 256 := by rw [← hx1, UInt8.toNat_ofNat']; omega
  obtain ⟨x0, hx0⟩ : ∃ x, UInt8.ofNat (v.toNat) = x := ⟨_, rfl⟩
  have ex0 : ((x0.toNat : Nat) : Int) = v % 256 := by rw [← hx0, UInt8.toNat_ofNat']; omega
  have HB : Hid (Pk.b4 v.toNat = [x3, x2, x1, x0]) := Lib.hid (by unfold Pk.b4; rw [hx3, hx2, hx1, hx0])
  have HUx3 : Hid (U [x3] = [.int .u8 (v / 16777216 % 256)]) := Lib.hid (by show [Value.int .u8 (x3.toNat : Int)] = _; rw [ex3])
  have HUx2 : Hid (U [x2] = [.int .u8 (v / 65536 % 256)]) := Lib.hid (by show [Value.int .u8 (x2.toNat : Int)] = _; rw [ex2])
  have HUx1 : Hid (U [x1] = [.int .u8 (v / 256 % 256)]) := Lib.hid (by show [Value.int .u8 (x1.toNat : Int)] = _; rw [ex1])
  have HUx0 : Hid (U [x0] = [.int .u8 (v % 256)]) := Lib.hid (by show [Value.int .u8 (x0.toNat : Int)] = _; rw [ex0])
  clear hx3 ex3 hx2 ex2 hx1 ex1 hx0 ex0
  go_enter Try.func24, Try.ntmps24
  go_wp2
  go_loopw [0, 7] (fun b i wr => ∃ (A' : Option Addr) (n' c' : Nat) (l' : List UInt8), b = .slice A' n' c' ∧ Wrote w wr base A A' n' c' l' ∧ ((i = .int .i64 3 ∧ n' = n ∧ Hid (l' = l)) ∨ (i = .int .i64 2 ∧ n' = n + 1 ∧ Hid (l' = l ++ [x3])) ∨ (i = .int .i64 1 ∧ n' = n + 2 ∧ Hid (l' = l ++ [x3, x2])) ∨ (i = .int .i64 0 ∧ n' = n + 3 ∧ Hid (l' = l ++ [x3, x2, x1])) ∨ (i = .int .i64 (-1) ∧ n' = n + 4 ∧ Hid (l' = l ++ [x3, x2, x1, x0])))) (fun _ i _ => (intOf i + 1).toNat)
  case atStart => exact ⟨A, n, c, l, rfl, Wrote.start h, Or.inl ⟨rfl, rfl, Lib.hid rfl⟩⟩
  case round =>
    obtain ⟨A', n', c', l', rfl, hw, hi⟩ := hrel
    have hsz := hw.2.1.size
    rcases hi with ⟨rfl, rfl, hl'⟩ | ⟨rfl, rfl, hl'⟩ | ⟨rfl, rfl, hl'⟩ | ⟨rfl, rfl, hl'⟩ | ⟨rfl, rfl, hl'⟩
    · go_wp2_with (at_builtin; refine wr_law rfl (.tmp 14) (.tmp 21) rfl rfl (hw.alloc _).1 (by simp; omega) rfl (news := [x3]) (by rw [HUx3.out]; exact Rd.one _ _ _) (by omega) (by omega) ?_; rintro A2 c2 w2 hw2)
      go_roundw
      case rel => exact ⟨A2, _, c2, _, rfl, (hw.alloc _).trans hw2, Or.inr (Or.inl ⟨by go_num, by omega, Lib.hid (by rw [hl'.out])⟩)⟩
      case measure => simp [intOf]
    · go_wp2_with (at_builtin; refine wr_law rfl (.tmp 14) (.tmp 21) rfl rfl (hw.alloc _).1 (by simp; omega) rfl (news := [x2]) (by rw [HUx2.out]; exact Rd.one _ _ _) (by omega) (by omega) ?_; rintro A2 c2 w2 hw2)
      go_roundw
      case rel => exact ⟨A2, _, c2, _, rfl, (hw.alloc _).trans hw2, Or.inr (Or.inr (Or.inl ⟨by go_num, by omega, Lib.hid (by rw [hl'.out, List.append_assoc]; rfl)⟩))⟩
      case measure => simp [intOf]
    · go_wp2_with (at_builtin; refine wr_law rfl (.tmp 14) (.tmp 21) rfl rfl (hw.alloc _).1 (by simp; omega) rfl (news := [x1]) (by rw [HUx1.out]; exact Rd.one _ _ _) (by omega) (by omega) ?_; rintro A2 c2 w2 hw2)
      go_roundw
      case rel => exact ⟨A2, _, c2, _, rfl, (hw.alloc _).trans hw2, Or.inr (Or.inr (Or.inr (Or.inl ⟨by go_num, by omega, Lib.hid (by rw [hl'.out, List.append_assoc]; rfl)⟩)))⟩
      case measure => simp [intOf]
    · go_wp2_with (at_builtin; refine wr_law rfl (.tmp 14) (.tmp 21) rfl rfl (hw.alloc _).1 (by simp; omega) rfl (news := [x0]) (by rw [HUx0.out]; exact Rd.one _ _ _) (by omega) (by omega) ?_; rintro A2 c2 w2 hw2)
      go_roundw
      case rel => exact ⟨A2, _, c2, _, rfl, (hw.alloc _).trans hw2, Or.inr (Or.inr (Or.inr (Or.inr (⟨by go_num, by omega, Lib.hid (by rw [hl'.out, List.append_assoc]; rfl)⟩))))⟩
      case measure => simp [intOf]
    · go_wp2
      go_ret
      exact ⟨A', c', rfl, by rw [HB.out, ← hl'.out]; exact hw⟩
end Go.Proofs.Ytbioblknhfmelaa

namespace Go.Proofs.Ytbioblknhfmelaa
set_option linter.unusedVariables false
set_option linter.unusedSimpArgs false
open Go.RowKit
theorem run_wr0 {w : World} {base n c : Nat} {A : Option Addr} {l : List UInt8} (ty : TypeId) (h : Wr w base A n c l) {A2 : Option Addr} {c2 : Nat} :
    (Builtin.append_ #[28, 28] ty #[.slice A n c, .slice A2 0 c2]).run Try.prog w = .ok (.slice A n c) w := by
  obtain ⟨i, hi, hz, hsz, hby⟩ := u8T.parts
  cases A2 with
  | none => exact run_append_nothing w _ _ ty _ i u8T.ht hi A n c h.2.1 _ (Src.ofNil w u8T.ht c2)
  | some a => exact run_append_nothing w _ _ ty _ i u8T.ht hi A n c h.2.1 _ (Src.ofSlice w u8T.ht a 0 c2 [] (by simp) (fun j u hu => by simp at hu) (fun u hu => by simp at hu))
theorem run_wrA {w : World} {base n c : Nat} {A : Option Addr} {l : List UInt8} (ty : TypeId) (h : Wr w base A n c l) (hbase : base ≤ w.heap.size) {B m c2 : Nat} {A2 : Option Addr} {news : List UInt8} (hr : Rd w B 1 A2 m (U news)) (hb : n + m ≤ 70368744177664) :
    ∃ A' c' w', (Builtin.append_ #[28, 28] ty #[.slice A n c, .slice A2 m c2]).run Try.prog w = .ok (.slice A' (n + m) c') w' ∧ Wrote w w' base A A' (n + m) c' (l ++ news) := by
  by_cases hm : m = 0
  · subst hm
    have hn : news = [] := by have h1 := hr.len1; rw [U_length] at h1; exact List.eq_nil_of_length_eq_zero h1
    subst hn
    exact ⟨A, c, w, run_wr0 ty h, by rw [List.append_nil]; exact Wrote.start h⟩
  · exact run_wr ty h hbase hr (by omega) hb
theorem wrA_law {w : World} {ops : Array Oper} {rest : List Oper} {o : Oper} {a : Act} {Q : Exit → Act → World → Prop} (hgd : o.guard = none) (s x : Operand)
    (ho : o.op = .call { callee := .builtin .append, args := #[s, x], argTypes := #[28, 28] })
    {base n c : Nat} {A : Option Addr} {l : List UInt8} (hs : a.eval s = .slice A n c) (h : Wr w base A n c l) (hbase : base ≤ w.heap.size)
    {B m c2 : Nat} {A2 : Option Addr} {news : List UInt8} (hx : a.eval x = .slice A2 m c2) (hr : Rd w B 1 A2 m (U news)) (hb : n + m ≤ 70368744177664)
    (k : ∀ A' c' w', Wrote w w' base A A' (n + m) c' (l ++ news) → wpList Try.prog ops Q rest (a.put o.dst (.slice A' (n + m) c')) w') : wpList Try.prog ops Q (o :: rest) a w := by
  refine wpList_plain hgd fun K hK => ?_
  obtain ⟨A', c', w', hrun, hw⟩ := run_wrA o.type h hbase (c2 := c2) hr hb
  unfold Oper.wp execOp
  simp only [ho, resolve, invoke, builtin, Sem.run_bind, Sem.run_pure, Result.andThen_ok, List.map_toArray, List.map_cons, List.map_nil, hs, hx]
  rw [show (Builtin.append_ #[28, 28] o.type #[.slice A n c, .slice A2 m c2]).run Try.prog w = _ from hrun]
  exact hK _ _ (k A' c' w' hw)
theorem wr_step {w : World} {ops : Array Oper} {o : Oper} {a : Act} {K : Act → World → Prop} {Q : Exit → Act → World → Prop} {E : Prop} (hgd : o.guard = none) (s x : Operand)
    (ho : o.op = .call { callee := .builtin .append, args := #[s, x], argTypes := #[28, 28] })
    {base n c : Nat} {A : Option Addr} {l : List UInt8} (hs : a.eval s = .slice A n c) (h : Wr w base A n c l) (hbase : base ≤ w.heap.size)
    {B m c2 : Nat} {A2 : Option Addr} {news : List UInt8} (hx : a.eval x = .slice A2 m c2) (hr : Rd w B 1 A2 m (U news)) (hb : n + m ≤ 70368744177664)
    (k : ∀ A' c' w', Wrote w w' base A A' (n + m) c' (l ++ news) → K (a.put o.dst (.slice A' (n + m) c')) w') :
    if Region.wanted o (yielded ops a.tmps) = true then Oper.wp Try.prog o a w K Q else E := by
  have hw : Region.wanted o (yielded ops a.tmps) = true := by simp [Region.wanted, hgd]
  rw [if_pos hw]
  obtain ⟨A', c', w', hrun, hwr⟩ := run_wrA o.type h hbase (c2 := c2) hr hb
  unfold Oper.wp execOp
  simp only [ho, resolve, invoke, builtin, Sem.run_bind, Sem.run_pure, Result.andThen_ok, List.map_toArray, List.map_cons, List.map_nil, hs, hx]
  rw [show (Builtin.append_ #[28, 28] o.type #[.slice A n c, .slice A2 m c2]).run Try.prog w = _ from hrun]
  exact k A' c' w' hwr
theorem wr_str_step {w : World} {ops : Array Oper} {o : Oper} {a : Act} {K : Act → World → Prop} {Q : Exit → Act → World → Prop} {E : Prop} (hgd : o.guard = none) (s x : Operand)
    (ho : o.op = .call { callee := .builtin .append, args := #[s, x], argTypes := #[28, 9] })
    {base n c : Nat} {A : Option Addr} {l : List UInt8} (hs : a.eval s = .slice A n c) (h : Wr w base A n c l) (hbase : base ≤ w.heap.size)
    {news : List UInt8} (hx : a.eval x = .string (strB news)) (hb : n + news.length ≤ 70368744177664)
    (k : ∀ A' c' w', Wrote w w' base A A' (n + news.length) c' (l ++ news) → K (a.put o.dst (.slice A' (n + news.length) c')) w') :
    if Region.wanted o (yielded ops a.tmps) = true then Oper.wp Try.prog o a w K Q else E := by
  have hw : Region.wanted o (yielded ops a.tmps) = true := by simp [Region.wanted, hgd]
  rw [if_pos hw]
  obtain ⟨A', c', w', hrun, hwr⟩ := run_wr_str o.type h hbase news hb
  unfold Oper.wp execOp
  simp only [ho, resolve, invoke, builtin, Sem.run_bind, Sem.run_pure, Result.andThen_ok, List.map_toArray, List.map_cons, List.map_nil, hs, hx]
  rw [show (Builtin.append_ #[28, 9] o.type #[.slice A n c, .string (strB news)]).run Try.prog w = _ from hrun]
  exact k A' c' w' hwr
theorem wr_strN_law {w : World} {ops : Array Oper} {rest : List Oper} {o : Oper} {a : Act} {Q : Exit → Act → World → Prop} (hgd : o.guard = none) (s x : Operand)
    (ho : o.op = .call { callee := .builtin .append, args := #[s, x], argTypes := #[28, 9] })
    {base n c m : Nat} {A : Option Addr} {l : List UInt8} (hs : a.eval s = .slice A n c) (h : Wr w base A n c l) (hbase : base ≤ w.heap.size)
    {news : List UInt8} (hm : news.length = m) (hx : a.eval x = .string (strB news)) (hb : n + m ≤ 70368744177664)
    (k : ∀ A' c' w', Wrote w w' base A A' (n + m) c' (l ++ news) → wpList Try.prog ops Q rest (a.put o.dst (.slice A' (n + m) c')) w') : wpList Try.prog ops Q (o :: rest) a w := by
  subst hm
  exact wr_str_law hgd s x ho hs h hbase hx hb k
end Go.Proofs.Ytbioblknhfmelaa

