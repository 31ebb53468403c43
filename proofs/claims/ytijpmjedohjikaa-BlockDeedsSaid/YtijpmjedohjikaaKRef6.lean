/- The document's disks: a new one. -/
import Derived.Test.YtijpmjedohjikaaKRef5
namespace Go.Proofs.Ytijpmjedohjikaa
set_option linter.unusedVariables false
set_option linter.unusedSimpArgs false
open Go.RowKit
theorem U_zero : U K.zero = List.replicate 64 (.int .u8 0) := by simp [U, K.zero]
theorem S_zero (n : Nat) : S (List.replicate n K.zero) = List.replicate (n * 64) (.int .u8 0) := by
  induction n with
  | zero => rfl
  | succ n ih => rw [List.replicate_succ, S_cons, ih, U_zero, List.replicate_append_replicate]; congr 1; omega
theorem made_rep (k m : Nat) (hk : 0 < k) (v : Value) : (madeCells (List.replicate k v).toArray m).toList = List.replicate m v := by
  apply List.ext_getElem
  · simp [madeCells]
  · intro i h1 h2
    have h64 : i % k < k := Nat.mod_lt _ hk
    simp [madeCells, h64]
theorem made_zero (m : Nat) : (madeCells (U K.zero).toArray m).toList = List.replicate m (.int .u8 0) := by rw [U_zero]; exact made_rep 64 m (by omega) _
/-- make of n sectors -/
theorem makeS_law {w : World} {ops : Array Oper} {rest : List Oper} {o : Oper} {a : Act} {Q : Exit → Act → World → Prop}
    (hg : o.guard = none) (l c : Operand) (hop : o.op = Op.makeSlice 22 l c) (base : Nat) {kl kc : IntKind} {L C : Int} (n : Nat) (hl : a.eval l = .int kl L) (hc : a.eval c = .int kc C) (hL : L = n) (hC : C = n)
    (hb : n ≤ 1000) (hbase : base ≤ w.heap.size)
    (h : ∀ w', w'.ownsRow base 26 64 (.slice (some ⟨w.heap.size, 0, none⟩) n n) n (S (List.replicate n K.zero)) → w.grownBy w' none → wpList Try.prog ops Q rest (a.put o.dst (.slice (some ⟨w.heap.size, 0, none⟩) n n)) w') : wpList Try.prog ops Q (o :: rest) a w := by
  obtain ⟨i, hi, hz, hsz, hby⟩ := secT.parts
  refine wpList_make_full w hg l c 22 hop base 26 i (.agg (U K.zero).toArray) 64 secT.ht hi hz hsz kl kc L C n hl hc hL hC (by rw [hby]; omega) (by unfold maxLen; omega) hbase fun w' h2 h3 => h w' ?_ h3
  have e : (Value.agg (U K.zero).toArray).cells = (U K.zero).toArray := by kernel_rfl
  rw [e, made_zero] at h2
  rw [S_zero]
  exact h2
set_option maxHeartbeats 1000000 in
theorem rknew_any (m : Int) (w : World) : Calls Try.prog 18 #[.int .i64 m] w (DiskR (K.new m).1 (K.new m).2 w) := by
  have Z := Box.new w #[.slice none 0 0, .int .i64 0, .bool false] 24
  have b := (Below.refl w.heap.size w).alloc (Nat.le_refl _) (.cells #[.slice none 0 0, .int .i64 0, .bool false] 24)
  by_cases hbad : m < 1 ∨ 64 < m
  · have EW : Hid (K.new m = (⟨[], 0, false⟩, 1)) := Lib.hid (by unfold K.new; rw [if_pos hbad])
    have q0 := Z.at 0 rfl
    have q1 := Z.at 1 rfl
    have q2 := Z.at 2 rfl
    have fin : DiskR (K.new m).1 (K.new m).2 w (.returned (.tuple #[.agg #[.slice none 0 0, .int .i64 0, .bool false], .int .i64 1])) (w.alloc (.cells #[.slice none 0 0, .int .i64 0, .bool false] 24)) := by
      rw [EW.out]
      exact ⟨⟨none, 0, 0, rfl, ⟨Rd.zero _ _ _ _, fun s hs => by simp at hs, Nat.le_refl _, by show 0 ≤ _; omega⟩, fun h => absurd (show (1 : Int) = 0 from h) (by decide)⟩, b⟩
    have FIN := Lib.hid fin
    clear fin
    by_cases h1 : m < 1
    all_goals try (have h2 : 64 < m := by omega)
    all_goals clear hbad
    all_goals go_enter Try.func18, Try.ntmps18
    all_goals go_wp2
    all_goals exact bodyPost_ret (v := .tuple #[.agg #[.slice none 0 0, .int .i64 0, .bool false], .int .i64 1]) (by simp [results, Try.results18, go_sem, q0, q1, q2]; try rfl) rfl FIN.out
  · obtain ⟨n, rfl⟩ := Int.eq_ofNat_of_zero_le (show 0 ≤ m by omega)
    have hn1 : ¬ (n : Int) < 1 := by omega
    have hn2 : ¬ 64 < (n : Int) := by omega
    have EW : Hid (K.new (n : Int) = (⟨List.replicate n K.zero, -1, false⟩, 0)) := Lib.hid (by unfold K.new; rw [if_neg hbad]; simp)
    have hs : (w.alloc (.cells #[.slice none 0 0, .int .i64 0, .bool false] 24)).heap.size = w.heap.size + 1 := by simp
    clear hbad
    go_enter Try.func18, Try.ntmps18
    go_wp2_with (at_make; go_loud (refine makeS_law rfl _ _ rfl (w.heap.size + 1) n rfl rfl rfl rfl (by omega) (by omega) ?_); rintro w2 hown hg; have b2 := (Below.refl (w.heap.size + 1) _).grown hg (by omega) (fun k hk => by simp at hk); replace Z := Z.below b2 (by omega); have b := b.grown hg (by omega) (fun k hk => by simp at hk); have z0 := Z.at 0 rfl; have z1 := Z.at 1 rfl; have z2 := Z.at 2 rfl; have zc := Z.cold)
    have Z2 := ((Z.set 0 (.slice (some ⟨w.heap.size + 1, 0, none⟩) n n)).set 1 (.int .i64 (-1))).set 2 (.bool false)
    have q0 := Z2.at 0 rfl
    have q1 := Z2.at 1 rfl
    have q2 := Z2.at 2 rfl
    refine bodyPost_ret (v := .tuple #[.agg #[.slice (some ⟨w.heap.size + 1, 0, none⟩) n n, .int .i64 (-1), .bool false], .int .i64 0]) (by simp [results, Try.results18, go_sem, q0, q1, q2]; try rfl) rfl ?_
    have b5 := below_set (o := 2) (below_set (o := 1) (below_set (o := 0) b (show w.heap.size ≤ w.heap.size by omega) (.slice (some ⟨w.heap.size + 1, 0, none⟩) n n)) (show w.heap.size ≤ w.heap.size by omega) (.int .i64 (-1))) (show w.heap.size ≤ w.heap.size by omega) (.bool false)
    rw [hs] at hown
    have hwf := K.new_wf (n : Int)
    rw [EW.out] at hwf ⊢
    have hk := ownsRow_setCell_below (ownsRow_setCell_below (ownsRow_setCell_below hown (a := ⟨w.heap.size, 0, none⟩) (by show w.heap.size < _; omega) (.slice (some ⟨w.heap.size + 1, 0, none⟩) n n)) (a := ⟨w.heap.size, 1, none⟩) (by show w.heap.size < _; omega) (.int .i64 (-1))) (a := ⟨w.heap.size, 2, none⟩) (by show w.heap.size < _; omega) (.bool false)
    exact ⟨⟨_, n, n, rfl, KRd.of_own hk hwf, fun _ bk ok hA => by have h9 : w.heap.size + 1 ≤ bk := own_far hown hA; omega⟩, b5⟩
end Go.Proofs.Ytijpmjedohjikaa
