/- The reference's find, Same, Of on digests. -/
import Derived.Test.YtoemefoppkgfaaaDMem
import Derived.Test.YtoemefoppkgfaaaVRef2
namespace Go.Proofs.Ytoemefoppkgfaaa
set_option linter.unusedVariables false
set_option linter.unusedSimpArgs false
open Go.RowKit

theorem dgT : SlT Try.prog 23 34 (.agg #[.int .i64 0, .int .i64 0, .int .i64 0]) 3 24 := ⟨Try.underlying23, by kernel_rfl, rfl, by omega⟩
def eqD (x y : Dg) : Bool := decide (x = y)
theorem eq_dg (x y : Dg) (w : World) : (Op.equalIn 10000 34 (.agg #[.int .i64 x.node, .int .i64 x.gen, .int .i64 x.ver]) (.agg #[.int .i64 y.node, .int .i64 y.gen, .int .i64 y.ver])).run Try.prog w = .ok (eqD x y) w := by
  have h0 := Try.underlying34
  simp [go_sem, run_equalIn_agg]
  obtain ⟨k, v, s⟩ := x
  obtain ⟨k', v', s'⟩ := y
  unfold eqD
  by_cases e1 : k = k'
  · by_cases e2 : v = v'
    · by_cases e3 : s = s'
      · simp [e1, e2, e3]
      · simp [e1, e2, e3]
    · simp [e1, e2]
  · simp [e1]
theorem guard_dg : Try.prog.eqGuardType Try.prog.depth 34 = false := by kernel_rfl

theorem dfind_at {l : List Dg} {i : Nat} {x : Dg} {k : Int} (h : l[i]? = some x) (hk : x.node = k) (hno : ∀ y ∈ l.take i, y.node ≠ k) : D.find l k = some x := by
  induction l generalizing i with
  | nil => simp at h
  | cons y r ih =>
    rw [D.find_cons]
    cases i with
    | zero =>
      obtain rfl : y = x := by simpa using h
      rw [if_pos hk]
    | succ i =>
      have h1 : y.node ≠ k := hno y (by rw [List.take_succ_cons]; exact List.mem_cons_self ..)
      rw [if_neg h1]
      exact ih (by simpa using h) (fun z hz => hno z (by rw [List.take_succ_cons]; exact List.mem_cons_of_mem _ hz))
theorem dfind_none {l : List Dg} {k : Int} (hno : ∀ y ∈ l, y.node ≠ k) : D.find l k = none := by
  unfold D.find
  rw [List.find?_eq_none.2]
  intro y hy
  have := hno y hy
  simpa using this
/-- a digest, and whether it is there -/
def findV (o : Option Dg) : Value := .tuple #[dgv (o.getD ⟨0, 0, 0⟩), .bool o.isSome]

set_option maxHeartbeats 2000000 in
theorem rdfind_any (l : List Dg) (node : Int) (A : Option Addr) (n c : Nat) (w : World) (h : DRd w A n l) (hn : n ≤ 1000) :
    Calls Try.prog 24 #[.slice A n c, .int .i64 node] w fun e w' => e = .returned (findV (D.find l node)) ∧ Below w.heap.size w w' := by
  have HL := Lib.hid h.len
  have Z := Box.new w #[.int .i64 0, .int .i64 0, .int .i64 0] 34
  have b1 : Below w.heap.size w (w.alloc (.cells #[.int .i64 0, .int .i64 0, .int .i64 0] 34)) := (Below.refl _ _).alloc (Nat.le_refl _) _
  have h1 := h.allocH (.cells #[.int .i64 0, .int .i64 0, .int .i64 0] 34)
  have hs1 : w.heap.size < (w.alloc (.cells #[.int .i64 0, .int .i64 0, .int .i64 0] 34)).heap.size := by simp
  clear h
  go_enter Try.func24, Try.ntmps24
  go_wp2_with fail
  generalize w.alloc (.cells #[.int .i64 0, .int .i64 0, .int .i64 0] 34) = w1 at *
  have z0 := Z.at 0 rfl
  have z1 := Z.at 1 rfl
  have z2 := Z.at 2 rfl
  have zf := Z.cold
  have zz := Z.lt
  go_loop [6] (fun i => ∃ k : Nat, k ≤ n ∧ i = .int .i64 k ∧ ∀ y ∈ l.take k, y.node ≠ node) (fun i => n - (intOf i).toNat)
  case atStart => exact ⟨0, by omega, rfl, by simp⟩
  case round =>
    obtain ⟨k, hk, rfl, hno⟩ := hrel
    have HN := Lib.hid hno
    clear hno
    by_cases hlt : k < n
    · obtain ⟨b, o, x, e1, hb, hx, c0, c1', c2⟩ := h1.at hlt
      subst e1
      have hk0 : (0 : Int) ≤ (k : Int) := by omega
      have HX := Lib.hid hx
      clear hx
      by_cases he : x.node = node
      · have HG := Lib.hid (dfind_at HX.out he HN.out)
        have t1 : (x.node == node) = true := beq_iff_eq.2 he
        clear he
        go_wp2
        refine bodyPost_ret (v := findV (some x)) (by simp [results, Try.results24, go_sem, z0, z1, z2, zz, findV, dgv]; try rfl) rfl ⟨by rw [HG.out], ?_⟩
        repeat (first | (with_reducible exact b1) | (with_reducible refine below_set ?_ (by omega) _))
      · have t1 : (x.node == node) = false := beq_eq_false_iff_ne.2 he
        have HE := Lib.hid he
        clear he
        go_wp2
        go_round
        case rel =>
          refine ⟨k + 1, by omega, by go_num, fun y hy => ?_⟩
          rw [take_more HX.out] at hy
          rcases List.mem_append.1 hy with hy | hy
          · exact HN.out y hy
          · obtain rfl : y = x := by simpa using hy
            exact HE.out
        case measure => simp [intOf]; omega
    · have hg : D.find l node = none := dfind_none (by have := HN.out; rwa [List.take_of_length_le (by have := HL.out; omega)] at this)
      have HG := Lib.hid hg
      clear hg
      go_wp2
      refine bodyPost_ret (v := findV none) (by simp [results, Try.results24, go_sem, z0, z1, z2, zz, findV, dgv]; try rfl) rfl ⟨by rw [HG.out], ?_⟩
      repeat (first | (with_reducible exact b1) | (with_reducible refine below_set ?_ (by omega) _))

set_option maxHeartbeats 1000000 in
theorem rdsame_any (l l' : List Dg) (A A' : Option Addr) (n n' c c' : Nat) (w : World) (h : DRd w A n l) (h' : DRd w A' n' l') (hn : n ≤ 1000) (hn' : n' ≤ 1000) :
    Calls Try.prog 11 #[.slice A n c, .slice A' n' c'] w fun e w' => e = .returned (.bool (decide (l = l'))) ∧ ∃ q, w' = w.drewN q := by
  have HL := Lib.hid h.len
  have HL' := Lib.hid h'.len
  by_cases hnn : n = n'
  · subst hnn
    go_enter Try.func11, Try.ntmps11
    go_wp2
    go_loopw [5] (fun i wr => ∃ k q : Nat, k ≤ n ∧ i = .int .i64 k ∧ l.take k = l'.take k ∧ wr = w.drewN q) (fun i _ => n - (intOf i).toNat)
    case atStart => exact ⟨0, 0, by omega, rfl, rfl, rfl⟩
    case round =>
      obtain ⟨k, q, hk, rfl, hno, rfl⟩ := hrel
      have HN := Lib.hid hno
      clear hno
      by_cases hlt : k < n
      · obtain ⟨b, o, x, e1, hb, hx, c0, c1, c2⟩ := h.at hlt
        obtain ⟨b', o', y, e2, hb', hy, d0, d1, d2⟩ := h'.at hlt
        subst e1 e2
        have HX := Lib.hid hx
        have HY := Lib.hid hy
        clear hx hy
        have hk0 : (0 : Int) ≤ (k : Int) := by omega
        have heq := fun w => eq_dg x y w
        have hgd := guard_dg
        rcases hxy : eqD x y
        · have hne : l ≠ l' := fun e => by
            have h1 := HX.out
            rw [e, HY.out] at h1
            injection h1 with h1
            rw [h1] at hxy
            simp [eqD] at hxy
          have HNE := Lib.hid hne
          rw [hxy] at heq
          clear hne hxy
          go_wp2
          go_quiet (fail)
          go_wp2
          go_ret
          exact ⟨ret_bool (decide_eq_false HNE.out).symm, q + nq, by simp⟩
        · have hex : x = y := of_decide_eq_true hxy
          have HXY := Lib.hid hex
          rw [hxy] at heq
          clear hex hxy
          go_wp2
          go_quiet (fail)
          go_wp2
          go_roundw
          case rel => exact ⟨k + 1, q + nq, by omega, by go_num, by rw [take_more HX.out, take_more HY.out, HN.out, HXY.out], by simp⟩
          case measure => simp [intOf]; omega
      · have he : l = l' := by
          have h1 := HN.out
          rwa [List.take_of_length_le (by have := HL.out; omega), List.take_of_length_le (by have := HL'.out; omega)] at h1
        have HE := Lib.hid he
        clear he
        go_wp2
        go_ret
        exact ⟨ret_bool (decide_eq_true HE.out).symm, q, rfl⟩
  · have t1 : ((n : Int) != (n' : Int)) = true := by rw [bne_iff_ne]; omega
    have HNE : Hid (l ≠ l') := Lib.hid fun e => by
      have h1 := HL.out
      rw [e, HL'.out] at h1
      exact hnn h1.symm
    clear hnn
    go_enter Try.func11, Try.ntmps11
    go_wp2
    go_ret
    exact ⟨ret_bool (decide_eq_false HNE.out).symm, 0, rfl⟩

/-- a list of digests that was made -/
def MadeD (W : World) (l : List Dg) (e : Ending) (w' : World) : Prop := ∃ A n c, e = .returned (.slice A n c) ∧ w'.ownsRow W.heap.size 34 3 (.slice A n c) n (FC dcl l) ∧ Below W.heap.size W w'
set_option maxHeartbeats 2000000 in
set_option maxRecDepth 20000 in
theorem rdof_any (U : Vw) (w : World) (h : VRd w U) (hn : U.n ≤ 1000) (hf : VFit U) :
    Calls Try.prog 16 #[vval U] w (MadeD w (D.of U.view)) := by
  obtain ⟨l, A, n, c⟩ := U
  have hl := h.len
  simp only at hn hl hf
  have HL := Lib.hid hl
  have HF := Lib.hid hf
  clear hl hf
  simp only [vval]
  go_enter Try.func16, Try.ntmps16
  go_wp2
  go_loopw [3, 4] (fun v i wr => ∃ k A1 c1, k ≤ n ∧ v = .slice A1 k c1 ∧ i = .int .i64 k ∧ wr.ownsRow w.heap.size 34 3 (.slice A1 k c1) k (FC dcl (D.of ((l.take k).map Nv.nm))) ∧ Below w.heap.size w wr) (fun _ i _ => n - (intOf i).toNat)
  case atStart => exact ⟨0, none, 0, by omega, rfl, rfl, World.ownsRow_nil _ _ _ _, Below.refl _ _⟩
  case round =>
    obtain ⟨k, A1, c1, hk, rfl, rfl, hown, hbel⟩ := hrel
    have hbs := hbel.size
    by_cases hlt : k < n
    · obtain ⟨b, o, x, e1, hbw, hx, hsr, d0, d1, d2, d3⟩ := h.at hlt
      simp only at e1 hx
      subst e1
      have hk0 : (0 : Int) ≤ (k : Int) := by omega
      have HTK : Hid (D.of ((l.take (k + 1)).map Nv.nm) = D.of ((l.take k).map Nv.nm) ++ [⟨x.node, x.v.s.gen, S.top x.v.s⟩]) := Lib.hid (by rw [take_more hx, List.map_append]; unfold D.of; rw [List.map_append]; rfl)
      have hfx := HF.out x (List.mem_of_getElem? hx)
      have hs1 := hsr.belowH hbel
      clear hx hsr
      replace d0 := (hbel.cell (p := ⟨b, o + k * 4, none⟩) hbw).trans d0
      replace d1 := (hbel.cell (p := ⟨b, o + k * 4 + 1, none⟩) hbw).trans d1
      replace d2 := (hbel.cell (p := ⟨b, o + k * 4 + 2, none⟩) hbw).trans d2
      replace d3 := (hbel.cell (p := ⟨b, o + k * 4 + 3, none⟩) hbw).trans d3
      have hb : b < wr.heap.size := by omega
      go_wp2
      refine wp_region_held_drew (S := (fun w' => w'.cell? ⟨b, o + k * 4, none⟩ = some (.int .i64 x.node) ∧ w'.cell? ⟨b, o + k * 4 + 1, none⟩ = some (.int .i64 x.v.s.gen) ∧ w'.cell? ⟨b, o + k * 4 + 2, none⟩ = some (.int .i64 x.v.s.beat) ∧ w'.cell? ⟨b, o + k * 4 + 3, none⟩ = some (.slice x.v.A x.v.n x.v.c))) (by kernel_rfl) (by exact ⟨d0, d1, d2, d3⟩) (fun hHeld0 => ?_)
      refine wpAnyH_take (i := 0) (oi := ⟨some 11, _, _, _, _, _⟩) (v := ?_) rfl (by kernel_rfl) (by kernel_rfl) (by kernel_rfl) (fun _ _ _ h => h) (Or.inl ⟨by rfl, ?_⟩) hHeld0 ?_
      rotate_left
      · (intro w' hSw; (try dsimp only at hSw); go_simp; all_goals (with_reducible rfl))
      try simp only [Act.put, List.setIfInBounds_toArray, List.set_cons_zero, List.set_cons_succ]
      refine wpAnyH_take (i := 1) (oi := ⟨some 12, _, _, _, _, _⟩) (v := ?_) rfl (by kernel_rfl) (by kernel_rfl) (by kernel_rfl) (fun _ _ _ h => h) (Or.inl ⟨by rfl, ?_⟩) hHeld0 ?_
      rotate_left
      · (intro w' hSw; (try dsimp only at hSw); go_simp; all_goals (with_reducible rfl))
      try simp only [Act.put, List.setIfInBounds_toArray, List.set_cons_zero, List.set_cons_succ]
      refine wpAnyH_take (i := 2) (oi := ⟨some 13, _, _, _, _, _⟩) (v := ?_) rfl (by kernel_rfl) (by kernel_rfl) (by kernel_rfl) (fun _ _ _ h => h) (Or.inl ⟨by rfl, ?_⟩) hHeld0 ?_
      rotate_left
      · (intro w' hSw; (try dsimp only at hSw); go_simp; all_goals (with_reducible rfl))
      try simp only [Act.put, List.setIfInBounds_toArray, List.set_cons_zero, List.set_cons_succ]
      refine wpAnyH_take (i := 3) (oi := ⟨some 14, _, _, _, _, _⟩) (v := ?_) rfl (by kernel_rfl) (by kernel_rfl) (by kernel_rfl) (fun _ _ _ h => h) (Or.inl ⟨by rfl, ?_⟩) hHeld0 ?_
      rotate_left
      · (intro w' hSw; (try dsimp only at hSw); go_simp; all_goals (with_reducible rfl))
      try simp only [Act.put, List.setIfInBounds_toArray, List.set_cons_zero, List.set_cons_succ]
      refine wpAnyH_take (i := 4) (oi := ⟨some 15, _, _, _, _, _⟩) (v := ?_) rfl (by kernel_rfl) (by kernel_rfl) (by kernel_rfl) (fun _ _ _ h => h) (Or.inl ⟨by rfl, ?_⟩) hHeld0 ?_
      rotate_left
      · (intro w' hSw; (try dsimp only at hSw); go_simp; all_goals (with_reducible rfl))
      try simp only [Act.put, List.setIfInBounds_toArray, List.set_cons_zero, List.set_cons_succ]
      refine wpAnyH_take (i := 5) (oi := ⟨some 16, _, _, _, _, _⟩) (v := ?_) rfl (by kernel_rfl) (by kernel_rfl) (by kernel_rfl) (fun _ _ _ h => h) (Or.inl ⟨by rfl, ?_⟩) hHeld0 ?_
      rotate_left
      · (intro w' hSw; (try dsimp only at hSw); go_simp; all_goals (with_reducible rfl))
      try simp only [Act.put, List.setIfInBounds_toArray, List.set_cons_zero, List.set_cons_succ]
      refine wpAnyH_take (i := 6) (oi := ⟨some 17, _, _, _, _, _⟩) (v := ?_) rfl (by kernel_rfl) (by kernel_rfl) (by kernel_rfl) (fun _ _ _ h => h) (Or.inl ⟨by rfl, ?_⟩) hHeld0 ?_
      rotate_left
      · (intro w' hSw; (try dsimp only at hSw); go_simp; all_goals (with_reducible rfl))
      try simp only [Act.put, List.setIfInBounds_toArray, List.set_cons_zero, List.set_cons_succ]
      refine wpAnyH_take (i := 7) (oi := ⟨some 18, _, _, _, _, _⟩) (v := ?_) rfl (by kernel_rfl) (by kernel_rfl) (by kernel_rfl) (fun _ _ _ h => h) (Or.inl ⟨by rfl, ?_⟩) hHeld0 ?_
      rotate_left
      · (intro w' hSw; (try dsimp only at hSw); go_simp; all_goals (with_reducible rfl))
      try simp only [Act.put, List.setIfInBounds_toArray, List.set_cons_zero, List.set_cons_succ]
      refine wpAnyH_take (i := 8) (oi := ⟨some 19, _, _, _, _, _⟩) (v := ?_) rfl (by kernel_rfl) (by kernel_rfl) (by kernel_rfl) (fun _ _ _ h => h) (Or.inl ⟨by rfl, ?_⟩) hHeld0 ?_
      rotate_left
      · (intro w' hSw; (try dsimp only at hSw); go_simp; all_goals (with_reducible rfl))
      try simp only [Act.put, List.setIfInBounds_toArray, List.set_cons_zero, List.set_cons_succ]
      refine wpAnyH_take (i := 9) (oi := ⟨some 20, _, _, _, _, _⟩) (v := ?_) rfl (by kernel_rfl) (by kernel_rfl) (by kernel_rfl) (fun _ _ _ h => h) (Or.inl ⟨by rfl, ?_⟩) hHeld0 ?_
      rotate_left
      · (intro w' hSw; (try dsimp only at hSw); go_simp; all_goals (with_reducible rfl))
      try simp only [Act.put, List.setIfInBounds_toArray, List.set_cons_zero, List.set_cons_succ]
      refine wpAnyH_take (i := 10) (oi := ⟨some 21, _, _, _, _, _⟩) (v := ?_) rfl (by kernel_rfl) (by kernel_rfl) (by kernel_rfl) (fun _ _ _ h => h) (Or.inl ⟨by rfl, ?_⟩) hHeld0 ?_
      rotate_left
      · (intro w' hSw; (try dsimp only at hSw); go_simp; all_goals (with_reducible rfl))
      try simp only [Act.put, List.setIfInBounds_toArray, List.set_cons_zero, List.set_cons_succ]
      refine wpAnyH_take (i := 11) (oi := ⟨some 22, _, _, _, _, _⟩) (v := ?_) rfl (by kernel_rfl) (by kernel_rfl) (by kernel_rfl) (fun _ _ _ h => h) (Or.inl ⟨by rfl, ?_⟩) hHeld0 ?_
      rotate_left
      · (intro w' hSw; (try dsimp only at hSw); go_simp; all_goals (with_reducible rfl))
      try simp only [Act.put, List.setIfInBounds_toArray, List.set_cons_zero, List.set_cons_succ]
      refine wpAnyH_take (i := 12) (oi := ⟨some 23, _, _, _, _, _⟩) (v := ?_) rfl (by kernel_rfl) (by kernel_rfl) (by kernel_rfl) (fun _ _ _ h => h) (Or.inl ⟨by rfl, ?_⟩) hHeld0 ?_
      rotate_left
      · (intro w' hSw; (try dsimp only at hSw); go_simp; all_goals (with_reducible rfl))
      try simp only [Act.put, List.setIfInBounds_toArray, List.set_cons_zero, List.set_cons_succ]
      refine wpAnyH_take (i := 13) (oi := ⟨some 24, _, _, _, _, _⟩) (v := ?_) rfl (by kernel_rfl) (by kernel_rfl) (by kernel_rfl) (fun _ _ _ h => h) (Or.inl ⟨by rfl, ?_⟩) hHeld0 ?_
      rotate_left
      · (intro w' hSw; (try dsimp only at hSw); go_simp; all_goals (with_reducible rfl))
      try simp only [Act.put, List.setIfInBounds_toArray, List.set_cons_zero, List.set_cons_succ]
      refine wpAnyH_take (i := 14) (oi := ⟨some 25, _, _, _, _, _⟩) (v := ?_) rfl (by kernel_rfl) (by kernel_rfl) (by kernel_rfl) (fun _ _ _ h => h) (Or.inl ⟨by rfl, ?_⟩) hHeld0 ?_
      rotate_left
      · (intro w' hSw; (try dsimp only at hSw); go_simp; all_goals (with_reducible rfl))
      try simp only [Act.put, List.setIfInBounds_toArray, List.set_cons_zero, List.set_cons_succ]
      refine wpAnyH_take (i := 15) (oi := ⟨some 26, _, _, _, _, _⟩) (v := ?_) rfl (by kernel_rfl) (by kernel_rfl) (by kernel_rfl) (fun _ _ _ h => h) (Or.inl ⟨by rfl, ?_⟩) hHeld0 ?_
      rotate_left
      · (intro w' hSw; (try dsimp only at hSw); go_simp; all_goals (with_reducible rfl))
      try simp only [Act.put, List.setIfInBounds_toArray, List.set_cons_zero, List.set_cons_succ]
      refine wpAnyH_take (i := 16) (oi := ⟨some 27, _, _, _, _, _⟩) (v := ?_) rfl (by kernel_rfl) (by kernel_rfl) (by kernel_rfl) (fun _ _ _ h => h) (Or.inl ⟨by rfl, ?_⟩) hHeld0 ?_
      rotate_left
      · (intro w' hSw; (try dsimp only at hSw); go_simp; all_goals (with_reducible rfl))
      try simp only [Act.put, List.setIfInBounds_toArray, List.set_cons_zero, List.set_cons_succ]
      refine wpAnyH_ready (rs := [17]) (by kernel_rfl) (by simp) (AllReadyH.cons (o := ⟨some 28, _, _, _, _, _⟩) rfl (fun K hK => ?_) AllReadyH.nil)
      go_simp
      (refine (rstop_any x.v _ hs1.drew (by omega)).mono ?_; rintro e w2 ⟨rfl, hb2⟩; have hb2' : Below wr.heap.size wr w2 := (Below.refl _ _).drew.trans hb2; have hown2 := own_below hown hb2'; replace d0 := (hb2'.cell (p := ⟨b, o + k * 4, none⟩) hb).trans d0; replace d1 := (hb2'.cell (p := ⟨b, o + k * 4 + 1, none⟩) hb).trans d1; replace d2 := (hb2'.cell (p := ⟨b, o + k * 4 + 2, none⟩) hb).trans d2; replace d3 := (hb2'.cell (p := ⟨b, o + k * 4 + 3, none⟩) hb).trans d3; have hb2l : b < w2.heap.size := by have := hb2'.size; omega)
      go_simp
      refine hK.out _ _ (by exact ⟨d0, d1, d2, d3⟩) (fun hHeld1 => ?_)
      clear hK hHeld0 K
      try simp only [Act.put, List.setIfInBounds_toArray, List.set_cons_zero, List.set_cons_succ]
      refine wpAnyH_take (i := 18) (oi := ⟨some 29, _, _, _, _, _⟩) (v := ?_) rfl (by kernel_rfl) (by kernel_rfl) (by kernel_rfl) (fun _ _ _ h => h) (Or.inl ⟨by rfl, ?_⟩) hHeld1 ?_
      rotate_left
      · (intro w' hSw; (try dsimp only at hSw); go_simp; all_goals (with_reducible rfl))
      try simp only [Act.put, List.setIfInBounds_toArray, List.set_cons_zero, List.set_cons_succ]
      refine wpAnyH_ready (rs := [19]) (by kernel_rfl) (by simp) (AllReadyH.cons (o := ⟨some 30, _, _, _, _, _⟩) rfl (fun K hK => ?_) AllReadyH.nil)
      go_simp
      (have g0 := d0; have g1 := d1; have g2 := d2; have g3 := d3; replace d0 := (World.cell?_alloc_lt w2 (.cells #[.int .i64 x.node, .int .i64 x.v.s.gen, .int .i64 (S.top x.v.s)] 34) ⟨b, o + k * 4, none⟩ hb2l).trans d0; replace d1 := (World.cell?_alloc_lt w2 (.cells #[.int .i64 x.node, .int .i64 x.v.s.gen, .int .i64 (S.top x.v.s)] 34) ⟨b, o + k * 4 + 1, none⟩ hb2l).trans d1; replace d2 := (World.cell?_alloc_lt w2 (.cells #[.int .i64 x.node, .int .i64 x.v.s.gen, .int .i64 (S.top x.v.s)] 34) ⟨b, o + k * 4 + 2, none⟩ hb2l).trans d2; replace d3 := (World.cell?_alloc_lt w2 (.cells #[.int .i64 x.node, .int .i64 x.v.s.gen, .int .i64 (S.top x.v.s)] 34) ⟨b, o + k * 4 + 3, none⟩ hb2l).trans d3)
      go_simp
      refine hK.out _ _ (by exact ⟨d0, d1, d2, d3⟩) (fun hHeld2 => ?_)
      clear hK hHeld1 K
      try simp only [Act.put, List.setIfInBounds_toArray, List.set_cons_zero, List.set_cons_succ]
      refine wpAnyH_ready (rs := [20]) (by kernel_rfl) (by simp) (AllReadyH.cons (o := ⟨some 31, _, _, _, _, _⟩) rfl (fun K hK => ?_) AllReadyH.nil)
      (refine pushF_step (f := dcl) (y := ⟨x.node, x.v.s.gen, S.top x.v.s⟩) dgT dcl_len dcl_one rfl (.tmp 11) (.tmp 30) (by rfl) w.heap.size rfl (by rfl) (by rfl) hown2 (by omega) (by omega) (by have := hb2'.size; omega) ?_; rintro A3 c3' w3 hown4 hb3 hkeep; have hb3' : Below w.heap.size w2 w3 := hb3; replace d0 := (hb3'.cell (p := ⟨b, o + k * 4, none⟩) hbw).trans g0; replace d1 := (hb3'.cell (p := ⟨b, o + k * 4 + 1, none⟩) hbw).trans g1; replace d2 := (hb3'.cell (p := ⟨b, o + k * 4 + 2, none⟩) hbw).trans g2; replace d3 := (hb3'.cell (p := ⟨b, o + k * 4 + 3, none⟩) hbw).trans g3)
      go_simp
      refine hK.out _ _ (by exact ⟨d0, d1, d2, d3⟩) (fun hHeld3 => ?_)
      clear hK hHeld2 K
      try simp only [Act.put, List.setIfInBounds_toArray, List.set_cons_zero, List.set_cons_succ]
      refine wpAnyH_take (i := 21) (oi := ⟨some 3, _, _, _, _, _⟩) (v := ?_) rfl (by kernel_rfl) (by kernel_rfl) (by kernel_rfl) (fun _ _ _ h => h) (Or.inl ⟨by rfl, ?_⟩) hHeld3 ?_
      rotate_left
      · (intro w' hSw; (try dsimp only at hSw); go_simp; all_goals (with_reducible rfl))
      try simp only [Act.put, List.setIfInBounds_toArray, List.set_cons_zero, List.set_cons_succ]
      refine wpAnyH_done (by kernel_rfl) ?_ _
      go_wp2
      go_roundw
      case rel => exact ⟨k + 1, A3, c3', by omega, rfl, by go_num, by rw [HTK.out]; exact hown4, (hbel.trans (hb2'.mono hbs)).trans hb3⟩
      case measure => simp [intOf]; omega
    · obtain rfl : k = n := by omega
      have htk : l.take k = l := List.take_of_length_le (by have := HL.out; omega)
      rw [htk] at hown
      have HO := Lib.hid hown
      clear htk hown
      go_wp2
      go_ret
      exact ⟨A1, k, c1, rfl, HO.out, hbel⟩
end Go.Proofs.Ytoemefoppkgfaaa
