/- Package service: the iterator over a table's services. -/
import Derived.Test.YtfgpncbcelafoaaYC3
import Derived.Test.YtfgpncbcelafoaaYMem
import Derived.RangeFuncBox
import Derived.RangeFuncNested
import Derived.RangeFuncWrites
import Derived.RangeFuncLeaves
import Derived.Shelf.Abstract
import Derived.OwnWalkIn
import Derived.TacticsInMore
import Derived.LoopNIn
import Derived.LoopIn
import Derived.Maps.AppendAt
namespace Go.Proofs.Ytfgpncbcelafoaa
set_option linter.unusedVariables false
set_option linter.unusedSimpArgs false
open Go.RowKit Go.Shelf
attribute [local go_sem] Oper.semAt_some
namespace Y
/-- a table's services by their keys -/
def lst : List Ent → List (Int × Svc)
  | [] => []
  | x :: r => if tells x then (x.key, (dec x.val).1) :: lst r else lst r
theorem lst_append : ∀ a b : List Ent, lst (a ++ b) = lst a ++ lst b
  | [], b => rfl
  | x :: r, b => by
    show (if tells x then _ :: lst (r ++ b) else lst (r ++ b)) = (if tells x then _ :: lst r else lst r) ++ lst b
    rw [lst_append r b]
    split <;> rfl
theorem lst_yes {l : List Ent} {k : Nat} {x : Ent} (h : l[k]? = some x) (ht : tells x) : lst (l.take (k + 1)) = lst (l.take k) ++ [(x.key, (dec x.val).1)] := by
  rw [take_more h, lst_append]
  show _ ++ (if tells x then _ else _) = _
  rw [if_pos ht]
  rfl
theorem lst_no {l : List Ent} {k : Nat} {x : Ent} (h : l[k]? = some x) (ht : ¬ tells x) : lst (l.take (k + 1)) = lst (l.take k) := by
  rw [take_more h, lst_append]
  show _ ++ (if tells x then _ else _) = _
  rw [if_neg ht]
  exact List.append_nil _
theorem lst_prefix (l : List Ent) (k : Nat) : lst (l.take k) <+: lst l := ⟨lst (l.drop k), by rw [← lst_append, List.take_append_drop]⟩
theorem lst_len : ∀ l : List Ent, (lst l).length ≤ l.length
  | [] => Nat.le_refl _
  | x :: r => by
    have := lst_len r
    show (if tells x then _ :: lst r else lst r).length ≤ r.length + 1
    split
    · simp only [List.length_cons]; omega
    · omega
theorem lst_room {l : List Ent} {k : Nat} {x : Ent} (h : l[k]? = some x) (ht : tells x) : (lst (l.take k)).length < (lst l).length := by
  obtain ⟨t, e⟩ := lst_prefix l (k + 1)
  rw [← e, lst_yes h ht]
  simp only [List.length_append, List.length_cons, List.length_nil]
  omega
theorem all_lst : ∀ l : List Ent, all l = (lst l).map (·.2)
  | [] => rfl
  | x :: r => by
    show (if tells x then (dec x.val).1 :: all r else all r) = (if tells x then _ :: lst r else lst r).map _
    rw [all_lst r]
    split <;> rfl
/-- the first one of a name -/
def fnd (n p : List UInt8) : List (Int × Svc) → Int × Bool
  | [] => (0, false)
  | x :: r => if x.2.name = n ∧ x.2.proto = p then (x.1, true) else fnd n p r
theorem key_fnd (n p : List UInt8) : ∀ l : List Ent, key n p l = fnd n p (lst l)
  | [] => rfl
  | x :: r => by
    show (if isIt n p x then (x.key, true) else key n p r) = fnd n p (if tells x then _ :: lst r else lst r)
    rw [key_fnd n p r]
    by_cases ht : tells x
    · rw [if_pos ht]
      show _ = (if (dec x.val).1.name = n ∧ (dec x.val).1.proto = p then _ else _)
      by_cases h : (dec x.val).1.name = n ∧ (dec x.val).1.proto = p
      · rw [if_pos h, if_pos ⟨ht, h⟩]
      · rw [if_neg h, if_neg (fun h' => h h'.2)]
    · rw [if_neg ht, if_neg (fun h' => ht h'.1)]
end Y
/-- what a round is handed -/
abbrev encsY (p : Int × Svc) : Array Value := #[.int .i64 p.1, ysv p.2]
theorem grown_none {w w' : World} (h : Below w.heap.size w w') : w.grownBy w' none := ⟨h.os, h.tape, h.output, h.size, fun k hk _ => h.block k hk⟩
set_option maxRecDepth 100000 in
set_option maxHeartbeats 4000000 in
theorem yserv1_in (n : Nat) (hn : 1 ≤ n) (lp Bs n₀ : Nat) (A : Option Addr) (len cap : Nat) (l : List Ent) (hlen : len ≤ 1000000) (hv : ∀ x ∈ l, x.val.length ≤ 140737488351232) (J Jx : List (Int × Svc) → World → Prop)
    (hJ : ∀ s W W', J s W → Below W.heap.size W W' → J s W')
    (hY : ∀ pre x W, J pre W → pre.length < (Y.lst l).length → YieldAt Fence.wide (n - 1) Try.prog lp (encsY x) W fun e W' =>
      (e = .returned (.bool true) ∧ J (pre ++ [x]) W' ∧ Below n₀ W W') ∨ (e = .returned (.bool false) ∧ Jx (pre ++ [x]) W'))
    (W : World) (hn0 : n₀ ≤ W.heap.size) (hBs : W.cell? ⟨Bs, 0, none⟩ = some (.slice A len cap)) (hr : Rd W n₀ 3 A len (EC l)) (h0 : J [] W) :
    CallsIn Fence.wide n Try.prog 41 #[.func (.yield lp) #[] #[], .pointer (some ⟨Bs, 0, none⟩)] W fun e W' => (∃ v, e = .returned v) ∧
      ((∃ ys, ys = Y.lst l ∧ J ys W') ∨ (∃ pre, pre <+: Y.lst l ∧ Jx pre W')) := by
  have HL := Lib.hid hr.lenE
  refine callsIn_of_wp Try.func41 rfl trivial ?_ rfl
  simp only [Try.ntmps41, List.size_toArray, List.length_cons, List.length_nil, Nat.reduceAdd, Nat.reduceSub, Array.replicate_succ, Array.replicate_zero, List.push_toArray, List.append_toArray, List.nil_append, List.cons_append]
  gi_wp2
  gi_loopw [9] (fun i wr => ∃ k : Nat, k ≤ len ∧ i = .int .i64 k ∧ J (Y.lst (l.take k)) wr ∧ Below n₀ W wr)
    (fun i _ => len - (intOf i).toNat)
  case atStart => exact ⟨0, Nat.zero_le _, rfl, h0, Below.refl _ _⟩
  case round =>
    obtain ⟨k, hk, rfl, hJs, hnx⟩ := hrel
    by_cases hlt : k < len
    · obtain ⟨b, o, x, e1, hb, hx, c0, c1, c2⟩ := (hr.below hnx).atE hlt
      have HX := Lib.hid hx
      clear hx
      subst e1
      have nb : n₀ ≤ wr.heap.size := by have := hnx.size; omega
      have hvx := hv x (by have := HX.out; exact List.mem_of_getElem? this)
      clear hBs hr h0
      obtain ⟨key, ver, val⟩ := x
      simp only at c0 c1 c2 hvx
      by_cases hk3 : key < 3
      · have f1 : decide (key < 3) = true := decide_eq_true hk3
        have nt : ¬ Y.tells ⟨key, ver, val⟩ := fun h => by have h1 : 3 ≤ key := h.1; omega
        have J2 := hJ _ _ _ hJs ((Below.refl wr.heap.size wr).alloc (Nat.le_refl _) (.cells #[.int .i64 key, .int .i64 ver, .string (strB val)] 40))
        rw [← Y.lst_no HX.out nt] at J2
        have b2 := hnx.alloc nb (.cells #[.int .i64 key, .int .i64 ver, .string (strB val)] 40)
        clear nt
        gi_wp2
        go_roundw
        case rel => exact ⟨k + 1, by omega, by simp, J2, b2⟩
        case measure => simp [intOf]; omega
      · have f1 : decide (key < 3) = false := decide_eq_false hk3
        have X := Box.new wr #[.int .i64 key, .int .i64 ver, .string (strB val)] 40
        have J2 := hJ _ _ _ hJs ((Below.refl wr.heap.size wr).alloc (Nat.le_refl _) (.cells #[.int .i64 key, .int .i64 ver, .string (strB val)] 40))
        have b2 := hnx.alloc nb (.cells #[.int .i64 key, .int .i64 ver, .string (strB val)] 40)
        gi_wp2_with fail
        refine ⟨trivial, (callsIn_wide.2 (ydecode_any val hvx _)).mono ?_⟩
        generalize wr.alloc (.cells #[.int .i64 key, .int .i64 ver, .string (strB val)] 40) = wx at *
        rintro _ w5 ⟨rfl, hb5⟩
        replace X := X.belowH hb5
        replace J2 := hJ _ _ _ J2 hb5
        replace b2 := b2.trans (hb5.mono (by have := b2.size; omega))
        clear hb5 c0 c1 c2
        have nb5 : n₀ ≤ w5.heap.size := by have := b2.size; omega
        rcases hd : Y.dec val with ⟨⟨dn, dp, d1, d2, d3, d4⟩, er⟩
        simp only [ysv]
        have J3 := hJ _ _ _ J2 ((Below.refl w5.heap.size w5).alloc (Nat.le_refl _) (.cells #[.string (strB dn), .string (strB dp), .int .i64 d1, .int .i64 d2, .int .i64 d3, .bool d4] 23))
        have b3 := b2.alloc nb5 (.cells #[.string (strB dn), .string (strB dp), .int .i64 d1, .int .i64 d2, .int .i64 d3, .bool d4] 23)
        have V := Box.new w5 #[.string (strB dn), .string (strB dp), .int .i64 d1, .int .i64 d2, .int .i64 d3, .bool d4] 23
        have X3 := X.alloc (.cells #[.string (strB dn), .string (strB dp), .int .i64 d1, .int .i64 d2, .int .i64 d3, .bool d4] 23)
        have HD := Lib.hid hd
        clear hd J2 b2 nb nb5
        have x0 := X3.at 0 (v := .int .i64 key) rfl
        have v0 := V.at 0 (v := .string (strB dn)) rfl
        have v1 := V.at 1 (v := .string (strB dp)) rfl
        have v2 := V.at 2 (v := .int .i64 d1) rfl
        have v3 := V.at 3 (v := .int .i64 d2) rfl
        have v4 := V.at 4 (v := .int .i64 d3) rfl
        have v5 := V.at 5 (v := .bool d4) rfl
        by_cases he : er = 0
        · subst he
          have ht : Y.tells ⟨key, ver, val⟩ := ⟨hk3, by show (Y.dec val).2 = 0; rw [HD.out]⟩
          obtain ⟨fn, tmps, assign, body, hy, hR⟩ := hY _ (key, ⟨dn, dp, d1, d2, d3, d4⟩) _ J3 (Y.lst_room HX.out ht)
          dsimp only [encsY, ysv] at hy
          have EL : Hid (Y.lst (l.take (k + 1)) = Y.lst (l.take k) ++ [(key, ⟨dn, dp, d1, d2, d3, d4⟩)]) := Lib.hid (by rw [Y.lst_yes HX.out ht]; show _ ++ [(key, (Y.dec val).1)] = _; rw [HD.out])
          clear ht
          gi_wp2
          refine hR.mono ?_
          rintro e W3 (⟨rfl, hJ3, hk3⟩ | ⟨rfl, hJx3⟩)
          · gi_wp2
            go_roundw
            case rel => exact ⟨k + 1, by omega, by simp, by rw [EL.out]; exact hJ3, b3.trans hk3⟩
            case measure => simp [intOf]; omega
          · gi_wp2
            refine bodyPost_ret (results_none rfl _ _ _) rfl ?_
            exact ⟨⟨_, rfl⟩, .inr ⟨_, by rw [← EL.out]; exact Y.lst_prefix _ _, hJx3⟩⟩
        · have u1 : (er == 0) = false := beq_eq_false_iff_ne.2 he
          have nt : ¬ Y.tells ⟨key, ver, val⟩ := fun h => he (by have h1 : (Y.dec val).2 = 0 := h.2; rw [HD.out] at h1; exact h1)
          rw [← Y.lst_no HX.out nt] at J3
          clear nt he
          gi_wp2
          refine ⟨fun _ h => (by cases h), ?_⟩
          gi_wp2
          go_roundw
          case rel => exact ⟨k + 1, by omega, by simp, J3, b3⟩
          case measure => simp [intOf]; omega
    · obtain rfl : k = len := by omega
      rw [List.take_of_length_le (by have := HL.out; omega)] at hJs
      gi_wp2
      go_end0
      exact ⟨⟨_, rfl⟩, .inl ⟨_, rfl, hJs⟩⟩
end Go.Proofs.Ytfgpncbcelafoaa
