/- Package service: all services of a table, by its iterator. -/
import Derived.Test.YtfgpncbcelafoaaYC4
namespace Go.Proofs.Ytfgpncbcelafoaa
set_option linter.unusedVariables false
set_option linter.unusedSimpArgs false
open Go.RowKit Go.Shelf
attribute [local go_sem] Oper.semAt_some
theorem yserv_in (n : Nat) (A : Option Addr) (len cap : Nat) (w : World) :
    CallsIn Fence.wide n Try.prog 33 #[.slice A len cap] w fun e w' => e = .returned (.func (.func 41) #[] #[.pointer (some ⟨w.heap.size, 0, none⟩)]) ∧ w' = w.alloc (.cells #[.slice A len cap] 33) := by
  refine callsIn_of_wp Try.func33 rfl trivial ?_ rfl
  simp only [Try.ntmps33, List.size_toArray, List.length_cons, List.length_nil, Nat.reduceAdd, Nat.reduceSub, Array.replicate_succ, Array.replicate_zero, List.push_toArray, List.append_toArray, List.nil_append, List.cons_append]
  gi_wp2
  go_ret
  exact ⟨rfl, rfl⟩
theorem yserv_stops (n : Nat) (hn : 1 ≤ n) (Bs n₀ : Nat) (A : Option Addr) (len cap : Nat) (l : List Ent) (hlen : len ≤ 1000000) (hv : ∀ x ∈ l, x.val.length ≤ 140737488351232) (w : World) (hBs : Bs < w.heap.size) (hn₀ : n₀ ≤ w.heap.size)
    (hc : w.cell? ⟨Bs, 0, none⟩ = some (.slice A len cap)) (hr : Rd w n₀ 3 A len (EC l)) :
    SeqStopsK Fence.wide n Try.prog 41 #[.pointer (some ⟨Bs, 0, none⟩)] encsY (Below n₀) (fun ys => ys = Y.lst l) (fun pre => pre <+: Y.lst l) (Y.lst l).length w := fun lp J Jx W hW hJ _ hY h0 =>
  yserv1_in n hn lp Bs n₀ A len cap l hlen hv J Jx (fun s W1 W' h hb => hJ s W1 W' none h (grown_none hb) (fun r e => by cases e)) hY W (Nat.le_trans hn₀ hW.size) ((hW.cell (p := ⟨Bs, 0, none⟩) hBs).trans hc) (hr.below (hW.mono hn₀)) h0
theorem box_own {β : Type} (b : Nat) (T : TypeId) (f : β → Array Value) : Own (fun s W => Box W b T (f s)) := fun s X Y row hs hg hrow =>
  (hg.block b hs.lt (fun e' => by obtain ⟨o, ho, hc⟩ := hrow b e'.symm; rw [show X.heap[b]? = _ from hs] at ho; cases ho; cases hc)).trans hs
theorem cells_new (w : World) (cs : List Value) (T : TypeId) : ∀ j u, cs[j]? = some u → (w.alloc (.cells cs.toArray T)).cell? ((⟨w.heap.size, 0, none⟩ : Addr).add j) = some u := fun j u h => by
  have := (Box.new w cs.toArray T).at j (v := u) (by simpa using h)
  by_cases hj : j = 0
  · subst hj
    simpa [Addr.add] using this
  · simpa [Addr.add, hj] using this
theorem ycs_one (x : Svc) : ∀ u ∈ yc x, u.oneCell' = true := by
  intro u hu
  simp only [yc, List.mem_cons, List.not_mem_nil, or_false] at hu
  rcases hu with rfl | rfl | rfl | rfl | rfl | rfl <;> rfl
theorem svcS : SlT Try.prog 41 23 (.agg #[.string ⟨#[]⟩, .string ⟨#[]⟩, .int .i64 0, .int .i64 0, .int .i64 0, .bool false]) 6 64 := ⟨Try.underlying41, by kernel_rfl, rfl, by omega⟩
set_option maxRecDepth 100000 in
set_option maxHeartbeats 4000000 in
theorem yall_in (n : Nat) (hn : 6 ≤ n) (A : Option Addr) (len cap : Nat) (l : List Ent) (w : World) (h : Rd w w.heap.size 3 A len (EC l)) (hlen : len ≤ 1000000) (hv : ∀ x ∈ l, x.val.length ≤ 140737488351232) :
    CallsIn Fence.wide n Try.prog 20 #[.slice A len cap] w fun e W' => ∃ v, e = .returned v ∧ W'.ownsRow w.heap.size 23 6 v (Y.lst l).length (YC ((Y.lst l).map (·.2))) ∧ Below w.heap.size w W' := by
  have h1 : 1 ≤ n := by omega
  have hll : l.length ≤ 1000000 := by have := h.lenE; omega
  have hlst := Y.lst_len l
  obtain ⟨i0, hi, hz0, hz1, hz2⟩ := svcS.parts
  refine callsIn_of_wp_marks Try.func20 rfl trivial ?_ rfl
  simp only [Try.ntmps20, List.size_toArray, List.length_cons, List.length_nil, Nat.reduceAdd, Nat.reduceSub, Array.replicate_succ, Array.replicate_zero, List.push_toArray, List.append_toArray, List.nil_append, List.cons_append]
  gi_wp2_with fail
  refine ⟨trivial, (yserv_in _ A len cap _).mono ?_⟩
  rintro _ w' ⟨rfl, rfl⟩
  gi_wp2_with fail
  have bO := (Boxed.new w 41 (.slice none 0 0)).alloc (.cells #[.slice A len cap] 33)
  have bA := Boxed.new (w.alloc (.cells #[.slice none 0 0] 41)) 33 (.slice A len cap)
  have hB0 : Below w.heap.size w ((w.alloc (.cells #[.slice none 0 0] 41)).alloc (.cells #[.slice A len cap] 33)) := ((Below.refl _ w).alloc (Nat.le_refl _) _).alloc (by simp) _
  simp only [World.size_alloc] at bA
  have hsz : ((w.alloc (.cells #[.slice none 0 0] 41)).alloc (.cells #[.slice A len cap] 33)).heap.size = w.heap.size + 2 := by simp
  obtain ⟨W0, hW0⟩ : ∃ W0, (w.alloc (.cells #[.slice none 0 0] 41)).alloc (.cells #[.slice A len cap] 33) = W0 := ⟨_, rfl⟩
  rw [hW0] at bO bA hB0 hsz
  rw [hW0]
  clear hW0
  refine wpIn_rangeFunc_ownH rfl h1 (gf := 41) (lb := #[.pointer (some ⟨w.heap.size + 1, 0, none⟩)]) rfl trivial (enters_of Try.func41 (by kernel_rfl) rfl)
    (yserv_stops (n - 1) (by omega) (w.heap.size + 1) w.heap.size A len cap l hlen hv W0 (by omega) (by omega) bA.cell (h.below hB0)) belowK_t (belowK_b (by omega)) (Below.refl _ _) (fun _ => rfl)
    (fun pre W => (∃ v, Boxed W w.heap.size 41 v ∧ W.ownsRow w.heap.size 23 6 v pre.length (YC (pre.map (·.2))) ∧ True) ∧ Below w.heap.size w W)
    (fun _ _ _ => False)
    (OwnFrom.and (Own.from (holdsRow_own w.heap.size w.heap.size 41 23 6 (fun pre : List (Int × Svc) => pre.length) (fun pre => YC (pre.map (·.2))) (fun _ _ => True)) _) (ownFrom_below (Nat.le_refl _) (by omega)))
    (fun _ _ _ _ _ hs _ _ => hs)
    ⟨⟨_, bO, World.ownsRow_nil _ _ _ _, trivial⟩, hB0⟩
    (fun x a' W => ∃ Bx, w.heap.size < Bx ∧ Box W Bx 23 #[.string (strB x.2.name), .string (strB x.2.proto), .int .i64 x.2.port, .int .i64 x.2.prio, .int .i64 x.2.wt, .bool x.2.well] ∧ a' = { tmps := #[.slice A len cap, undef, .slice none 0 0, .pointer (some ⟨w.heap.size, 0, none⟩), undef, .pointer (some ⟨Bx, 0, none⟩), .slice A len cap, .func (.func 41) #[] #[.pointer (some ⟨w.heap.size + 1, 0, none⟩)], .int .i64 x.1, ysv x.2, undef, undef, undef, undef, undef], defers := [] })
    (fun x a' _ X Y row hs hg hr => by obtain ⟨Bx, h1, h2, h3⟩ := hs; exact ⟨Bx, h1, box_own Bx 23 (fun (_ : Unit) => #[.string (strB x.2.name), .string (strB x.2.proto), .int .i64 x.2.port, .int .i64 x.2.prio, .int .i64 x.2.wt, .bool x.2.well]) () X Y row h2 hg (fun r e => (hr r e).2), h3⟩)
    ?assign ?body ?done ?stop
  case assign =>
    rintro lp pre ⟨xk, xn, xp, x1, x2, x3, x4⟩ W K ⟨⟨v, hv, hrow, _⟩, hB⟩ hK
    simp only [encsY, ysv]
    gi_wp2
    exact hK _ _ ((KeepsOthers.alloc _ _).from _) ((Below.refl _ W).alloc hB.size _) ⟨⟨v, hv.alloc _, hrow.alloc _, trivial⟩, hB.alloc hB.size _⟩ ⟨W.heap.size, hv.lt, Box.new W _ _, rfl⟩
  case body =>
    rintro lp pre x a' W hl ⟨r, hr⟩ ⟨⟨v, hv, hrow, _⟩, hB⟩ ⟨Bx, hBx, bX, rfl⟩ hlt
    have x0 := bX.at 0 (v := .string (strB x.2.name)) rfl
    have x1 := bX.at 1 (v := .string (strB x.2.proto)) rfl
    have x2 := bX.at 2 (v := .int .i64 x.2.port) rfl
    have x3 := bX.at 3 (v := .int .i64 x.2.prio) rfl
    have x4 := bX.at 4 (v := .int .i64 x.2.wt) rfl
    have x5 := bX.at 5 (v := .bool x.2.well) rfl
    have hc := hv.cell
    gi_wp2_with (gi_at_builtin; refine wpListIn_append_own _ rfl _ _ 41 rfl w.heap.size 23 i0 _ 6 64 svcS.ht hi hz0 hz1 hz2 svcS.hz svcS.hs _ _ _ rfl (hrow.alloc _) ⟨W.heap.size, 0, none⟩ 1 1 (yc x.2) rfl rfl (cells_new _ _ _) (ycs_one x.2) (by unfold maxLen; omega) (by omega) (by have := hB.size; simp; omega) ?_; intro v' w1 hown' hgrow _; obtain ⟨g', cap', rfl⟩ := ownsRow_succ hown'; obtain ⟨hv1, hv2, hr2, hk2, hb2⟩ := hv.appended (by decide) hrow hB.size (Nat.le_refl _) hown' hgrow; have hc1 := hv1.cell; have hf1 := hv1.frozen)
    exact ⟨hk2.from _, hb2, ⟨_, hv2, by simpa [YC_append, YC] using hr2, trivial⟩, hB.trans hb2⟩
  case done =>
    rintro D ys W hD rfl ⟨⟨v, hv, hrow, _⟩, hB⟩ hK
    have hc := hv.cell
    gi_wp2
    refine ⟨by simp, .inl ⟨_, _, rfl, run_takeDeferred hK, ?_⟩⟩
    exact ⟨_, results_tmp rfl _ _ _, v, rfl, ownsRow_putObj hrow _ hK rfl, hB.trans (belowK_b (w := w) (Nat.le_refl _) W D _ _ (by omega) hK rfl rfl)⟩
  case stop =>
    rintro D c pre W _ _ h _
    exact h.elim
theorem yall_any (l : List Ent) (A : Option Addr) (n c : Nat) (w : World) (h : Rd w w.heap.size 3 A n (EC l)) (hn : n ≤ 1000000) (hv : ∀ x ∈ l, x.val.length ≤ 140737488351232) : Calls Try.prog 20 #[.slice A n c] w (MadeY (Y.all l) w) := by
  refine ((callsIn_wide (n := 6)).1 (yall_in 6 (by omega) A n c l w h hn hv)).mono ?_
  rintro e w' ⟨v, rfl, ho, hb⟩
  obtain ⟨A', c', rfl⟩ := own_slice ho
  exact ⟨⟨A', _, c', rfl, by rw [Y.all_lst, List.length_map], by rw [Y.all_lst]; exact Rd.of_own ho, (own_cap ho).1, (own_cap ho).2⟩, hb⟩
end Go.Proofs.Ytfgpncbcelafoaa
