/- DRef DRef2 (merged). -/
import Derived.Test.YtkabkpeamggnnaaJMem
import Derived.Test.YtkabkpeamggnnaaJVRef
namespace Go.Proofs.Ytkabkpeamggnnaa
set_option linter.unusedVariables false
set_option linter.unusedSimpArgs false
open Go.RowKit

theorem dgT : SlT Try.prog 23 60 (.agg #[.int .i64 0, .int .i64 0, .int .i64 0]) 3 24 := ⟨Try.underlying23, by kernel_rfl, rfl, by omega⟩
theorem dfind_at {l : List Dg} {i : Nat} {x : Dg} {k : Int} (h : l[i]? = some x) (hk : x.node = k) (hno : ∀ y ∈ l.take i, y.node ≠ k) : D.find l k = some x := by
  induction l generalizing i with
  | nil => simp at h
  | cons y r ih =>
    rw [D.find_cons]
    cases i with
    | zero =>
      obtain rfl : y = x := by simpa using h
      rw [if_pos hk]
    | succ i =>
      have h1 : y.node ≠ k := hno y (by rw [List.take_succ_cons]; exact List.mem_cons_self ..)
      rw [if_neg h1]
      exact ih (by simpa using h) (fun z hz => hno z (by rw [List.take_succ_cons]; exact List.mem_cons_of_mem _ hz))
theorem dfind_none {l : List Dg} {k : Int} (hno : ∀ y ∈ l, y.node ≠ k) : D.find l k = none := by
  unfold D.find
  rw [List.find?_eq_none.2]
  intro y hy
  have := hno y hy
  simpa using this
/-- a digest, and whether it is there -/
def findV (o : Option Dg) : Value := .tuple #[dgv (o.getD ⟨0, 0, 0⟩), .bool o.isSome]

set_option maxHeartbeats 2000000 in
theorem rdfind_any (l : List Dg) (node : Int) (A : Option Addr) (n c : Nat) (w : World) (h : DRd w A n l) (hn : n ≤ 1000) :
    Calls Try.prog 53 #[.slice A n c, .int .i64 node] w fun e w' => e = .returned (findV (D.find l node)) ∧ Below w.heap.size w w' := by
  have HL := Lib.hid h.len
  have Z := Box.new w #[.int .i64 0, .int .i64 0, .int .i64 0] 60
  have b1 : Below w.heap.size w (w.alloc (.cells #[.int .i64 0, .int .i64 0, .int .i64 0] 60)) := (Below.refl _ _).alloc (Nat.le_refl _) _
  have h1 := h.allocH (.cells #[.int .i64 0, .int .i64 0, .int .i64 0] 60)
  have hs1 : w.heap.size < (w.alloc (.cells #[.int .i64 0, .int .i64 0, .int .i64 0] 60)).heap.size := by simp
  clear h
  go_enter Try.func53, Try.ntmps53
  go_wp2_with fail
  generalize w.alloc (.cells #[.int .i64 0, .int .i64 0, .int .i64 0] 60) = w1 at *
  have z0 := Z.at 0 rfl
  have z1 := Z.at 1 rfl
  have z2 := Z.at 2 rfl
  have zf := Z.cold
  have zz := Z.lt
  go_loop [6] (fun i => ∃ k : Nat, k ≤ n ∧ i = .int .i64 k ∧ ∀ y ∈ l.take k, y.node ≠ node) (fun i => n - (intOf i).toNat)
  case atStart => exact ⟨0, by omega, rfl, by simp⟩
  case round =>
    obtain ⟨k, hk, rfl, hno⟩ := hrel
    have HN := Lib.hid hno
    clear hno
    by_cases hlt : k < n
    · obtain ⟨b, o, x, e1, hb, hx, c0, c1', c2⟩ := h1.at hlt
      subst e1
      have hk0 : (0 : Int) ≤ (k : Int) := by omega
      have HX := Lib.hid hx
      clear hx
      by_cases he : x.node = node
      · have HG := Lib.hid (dfind_at HX.out he HN.out)
        have t1 : (x.node == node) = true := beq_iff_eq.2 he
        clear he
        go_wp2
        refine bodyPost_ret (v := findV (some x)) (by simp [results, Try.results53, go_sem, z0, z1, z2, zz, findV, dgv]; try rfl) rfl ⟨by rw [HG.out], ?_⟩
        repeat (first | (with_reducible exact b1) | (with_reducible refine below_set ?_ (by omega) _))
      · have t1 : (x.node == node) = false := beq_eq_false_iff_ne.2 he
        have HE := Lib.hid he
        clear he
        go_wp2
        go_round
        case rel =>
          refine ⟨k + 1, by omega, by go_num, fun y hy => ?_⟩
          rw [take_more HX.out] at hy
          rcases List.mem_append.1 hy with hy | hy
          · exact HN.out y hy
          · obtain rfl : y = x := by simpa using hy
            exact HE.out
        case measure => simp [intOf]; omega
    · have hg : D.find l node = none := dfind_none (by have := HN.out; rwa [List.take_of_length_le (by have := HL.out; omega)] at this)
      have HG := Lib.hid hg
      clear hg
      go_wp2
      refine bodyPost_ret (v := findV none) (by simp [results, Try.results53, go_sem, z0, z1, z2, zz, findV, dgv]; try rfl) rfl ⟨by rw [HG.out], ?_⟩
      repeat (first | (with_reducible exact b1) | (with_reducible refine below_set ?_ (by omega) _))

/-- a list of digests that was made -/
def MadeD (W : World) (l : List Dg) (e : Ending) (w' : World) : Prop := ∃ A n c, e = .returned (.slice A n c) ∧ w'.ownsRow W.heap.size 60 3 (.slice A n c) n (FC dcl l) ∧ Below W.heap.size W w'
set_option maxHeartbeats 2000000 in
set_option maxRecDepth 20000 in
theorem rdof_any (U : Vw) (w : World) (h : VRd w U) (hn : U.n ≤ 1000) (hf : VFit U) :
    Calls Try.prog 31 #[vval U] w (MadeD w (D.of U.view)) := by
  obtain ⟨l, A, n, c⟩ := U
  have hl := h.len
  simp only at hn hl hf
  have HL := Lib.hid hl
  have HF := Lib.hid hf
  clear hl hf
  simp only [vval]
  go_enter Try.func31, Try.ntmps31
  go_wp2
  go_loopw [3, 4] (fun v i wr => ∃ k A1 c1, k ≤ n ∧ v = .slice A1 k c1 ∧ i = .int .i64 k ∧ wr.ownsRow w.heap.size 60 3 (.slice A1 k c1) k (FC dcl (D.of ((l.take k).map Nv.nm))) ∧ Below w.heap.size w wr) (fun _ i _ => n - (intOf i).toNat)
  case atStart => exact ⟨0, none, 0, by omega, rfl, rfl, World.ownsRow_nil _ _ _ _, Below.refl _ _⟩
  case round =>
    obtain ⟨k, A1, c1, hk, rfl, rfl, hown, hbel⟩ := hrel
    have hbs := hbel.size
    by_cases hlt : k < n
    · obtain ⟨b, o, x, e1, hbw, hx, hsr, d0, d1, d2, d3⟩ := h.at hlt
      simp only at e1 hx
      subst e1
      have hk0 : (0 : Int) ≤ (k : Int) := by omega
      have HTK : Hid (D.of ((l.take (k + 1)).map Nv.nm) = D.of ((l.take k).map Nv.nm) ++ [⟨x.node, x.v.s.gen, S.top x.v.s⟩]) := Lib.hid (by rw [take_more hx, List.map_append]; unfold D.of; rw [List.map_append]; rfl)
      have hfx := HF.out x (List.mem_of_getElem? hx)
      have hs1 := hsr.belowH hbel
      clear hx hsr
      replace d0 := (hbel.cell (p := ⟨b, o + k * 4, none⟩) hbw).trans d0
      replace d1 := (hbel.cell (p := ⟨b, o + k * 4 + 1, none⟩) hbw).trans d1
      replace d2 := (hbel.cell (p := ⟨b, o + k * 4 + 2, none⟩) hbw).trans d2
      replace d3 := (hbel.cell (p := ⟨b, o + k * 4 + 3, none⟩) hbw).trans d3
      have hb : b < wr.heap.size := by omega
      go_wp2
      refine wp_region_held_drew (S := (fun w' => w'.cell? ⟨b, o + k * 4, none⟩ = some (.int .i64 x.node) ∧ w'.cell? ⟨b, o + k * 4 + 1, none⟩ = some (.int .i64 x.v.s.gen) ∧ w'.cell? ⟨b, o + k * 4 + 2, none⟩ = some (.int .i64 x.v.s.beat) ∧ w'.cell? ⟨b, o + k * 4 + 3, none⟩ = some (.slice x.v.A x.v.n x.v.c))) (by kernel_rfl) (by exact ⟨d0, d1, d2, d3⟩) (fun hHeld0 => ?_)
      refine wpAnyH_take (i := 0) (oi := ⟨some 11, _, _, _, _, _⟩) (v := ?_) rfl (by kernel_rfl) (by kernel_rfl) (by kernel_rfl) (fun _ _ _ h => h) (Or.inl ⟨by rfl, ?_⟩) hHeld0 ?_
      rotate_left
      · (intro w' hSw; (try dsimp only at hSw); go_simp; all_goals (with_reducible rfl))
      try simp only [Act.put, sA, sB, sC]
      refine wpAnyH_take (i := 1) (oi := ⟨some 12, _, _, _, _, _⟩) (v := ?_) rfl (by kernel_rfl) (by kernel_rfl) (by kernel_rfl) (fun _ _ _ h => h) (Or.inl ⟨by rfl, ?_⟩) hHeld0 ?_
      rotate_left
      · (intro w' hSw; (try dsimp only at hSw); go_simp; all_goals (with_reducible rfl))
      try simp only [Act.put, sA, sB, sC]
      refine wpAnyH_take (i := 2) (oi := ⟨some 13, _, _, _, _, _⟩) (v := ?_) rfl (by kernel_rfl) (by kernel_rfl) (by kernel_rfl) (fun _ _ _ h => h) (Or.inl ⟨by rfl, ?_⟩) hHeld0 ?_
      rotate_left
      · (intro w' hSw; (try dsimp only at hSw); go_simp; all_goals (with_reducible rfl))
      try simp only [Act.put, sA, sB, sC]
      refine wpAnyH_take (i := 3) (oi := ⟨some 14, _, _, _, _, _⟩) (v := ?_) rfl (by kernel_rfl) (by kernel_rfl) (by kernel_rfl) (fun _ _ _ h => h) (Or.inl ⟨by rfl, ?_⟩) hHeld0 ?_
      rotate_left
      · (intro w' hSw; (try dsimp only at hSw); go_simp; all_goals (with_reducible rfl))
      try simp only [Act.put, sA, sB, sC]
      refine wpAnyH_take (i := 4) (oi := ⟨some 15, _, _, _, _, _⟩) (v := ?_) rfl (by kernel_rfl) (by kernel_rfl) (by kernel_rfl) (fun _ _ _ h => h) (Or.inl ⟨by rfl, ?_⟩) hHeld0 ?_
      rotate_left
      · (intro w' hSw; (try dsimp only at hSw); go_simp; all_goals (with_reducible rfl))
      try simp only [Act.put, sA, sB, sC]
      refine wpAnyH_take (i := 5) (oi := ⟨some 16, _, _, _, _, _⟩) (v := ?_) rfl (by kernel_rfl) (by kernel_rfl) (by kernel_rfl) (fun _ _ _ h => h) (Or.inl ⟨by rfl, ?_⟩) hHeld0 ?_
      rotate_left
      · (intro w' hSw; (try dsimp only at hSw); go_simp; all_goals (with_reducible rfl))
      try simp only [Act.put, sA, sB, sC]
      refine wpAnyH_take (i := 6) (oi := ⟨some 17, _, _, _, _, _⟩) (v := ?_) rfl (by kernel_rfl) (by kernel_rfl) (by kernel_rfl) (fun _ _ _ h => h) (Or.inl ⟨by rfl, ?_⟩) hHeld0 ?_
      rotate_left
      · (intro w' hSw; (try dsimp only at hSw); go_simp; all_goals (with_reducible rfl))
      try simp only [Act.put, sA, sB, sC]
      refine wpAnyH_take (i := 7) (oi := ⟨some 18, _, _, _, _, _⟩) (v := ?_) rfl (by kernel_rfl) (by kernel_rfl) (by kernel_rfl) (fun _ _ _ h => h) (Or.inl ⟨by rfl, ?_⟩) hHeld0 ?_
      rotate_left
      · (intro w' hSw; (try dsimp only at hSw); go_simp; all_goals (with_reducible rfl))
      try simp only [Act.put, sA, sB, sC]
      refine wpAnyH_take (i := 8) (oi := ⟨some 19, _, _, _, _, _⟩) (v := ?_) rfl (by kernel_rfl) (by kernel_rfl) (by kernel_rfl) (fun _ _ _ h => h) (Or.inl ⟨by rfl, ?_⟩) hHeld0 ?_
      rotate_left
      · (intro w' hSw; (try dsimp only at hSw); go_simp; all_goals (with_reducible rfl))
      try simp only [Act.put, sA, sB, sC]
      refine wpAnyH_take (i := 9) (oi := ⟨some 20, _, _, _, _, _⟩) (v := ?_) rfl (by kernel_rfl) (by kernel_rfl) (by kernel_rfl) (fun _ _ _ h => h) (Or.inl ⟨by rfl, ?_⟩) hHeld0 ?_
      rotate_left
      · (intro w' hSw; (try dsimp only at hSw); go_simp; all_goals (with_reducible rfl))
      try simp only [Act.put, sA, sB, sC]
      refine wpAnyH_take (i := 10) (oi := ⟨some 21, _, _, _, _, _⟩) (v := ?_) rfl (by kernel_rfl) (by kernel_rfl) (by kernel_rfl) (fun _ _ _ h => h) (Or.inl ⟨by rfl, ?_⟩) hHeld0 ?_
      rotate_left
      · (intro w' hSw; (try dsimp only at hSw); go_simp; all_goals (with_reducible rfl))
      try simp only [Act.put, sA, sB, sC]
      refine wpAnyH_take (i := 11) (oi := ⟨some 22, _, _, _, _, _⟩) (v := ?_) rfl (by kernel_rfl) (by kernel_rfl) (by kernel_rfl) (fun _ _ _ h => h) (Or.inl ⟨by rfl, ?_⟩) hHeld0 ?_
      rotate_left
      · (intro w' hSw; (try dsimp only at hSw); go_simp; all_goals (with_reducible rfl))
      try simp only [Act.put, sA, sB, sC]
      refine wpAnyH_take (i := 12) (oi := ⟨some 23, _, _, _, _, _⟩) (v := ?_) rfl (by kernel_rfl) (by kernel_rfl) (by kernel_rfl) (fun _ _ _ h => h) (Or.inl ⟨by rfl, ?_⟩) hHeld0 ?_
      rotate_left
      · (intro w' hSw; (try dsimp only at hSw); go_simp; all_goals (with_reducible rfl))
      try simp only [Act.put, sA, sB, sC]
      refine wpAnyH_take (i := 13) (oi := ⟨some 24, _, _, _, _, _⟩) (v := ?_) rfl (by kernel_rfl) (by kernel_rfl) (by kernel_rfl) (fun _ _ _ h => h) (Or.inl ⟨by rfl, ?_⟩) hHeld0 ?_
      rotate_left
      · (intro w' hSw; (try dsimp only at hSw); go_simp; all_goals (with_reducible rfl))
      try simp only [Act.put, sA, sB, sC]
      refine wpAnyH_take (i := 14) (oi := ⟨some 25, _, _, _, _, _⟩) (v := ?_) rfl (by kernel_rfl) (by kernel_rfl) (by kernel_rfl) (fun _ _ _ h => h) (Or.inl ⟨by rfl, ?_⟩) hHeld0 ?_
      rotate_left
      · (intro w' hSw; (try dsimp only at hSw); go_simp; all_goals (with_reducible rfl))
      try simp only [Act.put, sA, sB, sC]
      refine wpAnyH_take (i := 15) (oi := ⟨some 26, _, _, _, _, _⟩) (v := ?_) rfl (by kernel_rfl) (by kernel_rfl) (by kernel_rfl) (fun _ _ _ h => h) (Or.inl ⟨by rfl, ?_⟩) hHeld0 ?_
      rotate_left
      · (intro w' hSw; (try dsimp only at hSw); go_simp; all_goals (with_reducible rfl))
      try simp only [Act.put, sA, sB, sC]
      refine wpAnyH_take (i := 16) (oi := ⟨some 27, _, _, _, _, _⟩) (v := ?_) rfl (by kernel_rfl) (by kernel_rfl) (by kernel_rfl) (fun _ _ _ h => h) (Or.inl ⟨by rfl, ?_⟩) hHeld0 ?_
      rotate_left
      · (intro w' hSw; (try dsimp only at hSw); go_simp; all_goals (with_reducible rfl))
      try simp only [Act.put, sA, sB, sC]
      refine wpAnyH_ready (rs := [17]) (by kernel_rfl) (by simp) (AllReadyH.cons (o := ⟨some 28, _, _, _, _, _⟩) rfl (fun K hK => ?_) AllReadyH.nil)
      go_simp
      (refine (rstop_any x.v _ hs1.drew (by omega)).mono ?_; rintro e w2 ⟨rfl, hb2⟩; have hb2' : Below wr.heap.size wr w2 := (Below.refl _ _).drew.trans hb2; have hown2 := own_below hown hb2'; replace d0 := (hb2'.cell (p := ⟨b, o + k * 4, none⟩) hb).trans d0; replace d1 := (hb2'.cell (p := ⟨b, o + k * 4 + 1, none⟩) hb).trans d1; replace d2 := (hb2'.cell (p := ⟨b, o + k * 4 + 2, none⟩) hb).trans d2; replace d3 := (hb2'.cell (p := ⟨b, o + k * 4 + 3, none⟩) hb).trans d3; have hb2l : b < w2.heap.size := by have := hb2'.size; omega)
      go_simp
      refine hK.out _ _ (by exact ⟨d0, d1, d2, d3⟩) (fun hHeld1 => ?_)
      clear hK hHeld0 K
      try simp only [Act.put, sA, sB, sC]
      refine wpAnyH_take (i := 18) (oi := ⟨some 29, _, _, _, _, _⟩) (v := ?_) rfl (by kernel_rfl) (by kernel_rfl) (by kernel_rfl) (fun _ _ _ h => h) (Or.inl ⟨by rfl, ?_⟩) hHeld1 ?_
      rotate_left
      · (intro w' hSw; (try dsimp only at hSw); go_simp; all_goals (with_reducible rfl))
      try simp only [Act.put, sA, sB, sC]
      refine wpAnyH_ready (rs := [19]) (by kernel_rfl) (by simp) (AllReadyH.cons (o := ⟨some 30, _, _, _, _, _⟩) rfl (fun K hK => ?_) AllReadyH.nil)
      go_simp
      (have g0 := d0; have g1 := d1; have g2 := d2; have g3 := d3; replace d0 := (World.cell?_alloc_lt w2 (.cells #[.int .i64 x.node, .int .i64 x.v.s.gen, .int .i64 (S.top x.v.s)] 60) ⟨b, o + k * 4, none⟩ hb2l).trans d0; replace d1 := (World.cell?_alloc_lt w2 (.cells #[.int .i64 x.node, .int .i64 x.v.s.gen, .int .i64 (S.top x.v.s)] 60) ⟨b, o + k * 4 + 1, none⟩ hb2l).trans d1; replace d2 := (World.cell?_alloc_lt w2 (.cells #[.int .i64 x.node, .int .i64 x.v.s.gen, .int .i64 (S.top x.v.s)] 60) ⟨b, o + k * 4 + 2, none⟩ hb2l).trans d2; replace d3 := (World.cell?_alloc_lt w2 (.cells #[.int .i64 x.node, .int .i64 x.v.s.gen, .int .i64 (S.top x.v.s)] 60) ⟨b, o + k * 4 + 3, none⟩ hb2l).trans d3)
      go_simp
      refine hK.out _ _ (by exact ⟨d0, d1, d2, d3⟩) (fun hHeld2 => ?_)
      clear hK hHeld1 K
      try simp only [Act.put, sA, sB, sC]
      refine wpAnyH_ready (rs := [20]) (by kernel_rfl) (by simp) (AllReadyH.cons (o := ⟨some 31, _, _, _, _, _⟩) rfl (fun K hK => ?_) AllReadyH.nil)
      (refine pushF_step (f := dcl) (y := ⟨x.node, x.v.s.gen, S.top x.v.s⟩) dgT dcl_len dcl_one rfl (.tmp 11) (.tmp 30) (by rfl) w.heap.size rfl (by rfl) (by rfl) hown2 (by omega) (by omega) (by have := hb2'.size; omega) ?_; rintro A3 c3' w3 hown4 hb3 hkeep; have hb3' : Below w.heap.size w2 w3 := hb3; replace d0 := (hb3'.cell (p := ⟨b, o + k * 4, none⟩) hbw).trans g0; replace d1 := (hb3'.cell (p := ⟨b, o + k * 4 + 1, none⟩) hbw).trans g1; replace d2 := (hb3'.cell (p := ⟨b, o + k * 4 + 2, none⟩) hbw).trans g2; replace d3 := (hb3'.cell (p := ⟨b, o + k * 4 + 3, none⟩) hbw).trans g3)
      go_simp
      refine hK.out _ _ (by exact ⟨d0, d1, d2, d3⟩) (fun hHeld3 => ?_)
      clear hK hHeld2 K
      try simp only [Act.put, sA, sB, sC]
      refine wpAnyH_take (i := 21) (oi := ⟨some 3, _, _, _, _, _⟩) (v := ?_) rfl (by kernel_rfl) (by kernel_rfl) (by kernel_rfl) (fun _ _ _ h => h) (Or.inl ⟨by rfl, ?_⟩) hHeld3 ?_
      rotate_left
      · (intro w' hSw; (try dsimp only at hSw); go_simp; all_goals (with_reducible rfl))
      try simp only [Act.put, sA, sB, sC]
      refine wpAnyH_done (by kernel_rfl) ?_ _
      go_wp2
      go_roundw
      case rel => exact ⟨k + 1, A3, c3', by omega, rfl, by go_num, by rw [HTK.out]; exact hown4, (hbel.trans (hb2'.mono hbs)).trans hb3⟩
      case measure => simp [intOf]; omega
    · obtain rfl : k = n := by omega
      have htk : l.take k = l := List.take_of_length_le (by have := HL.out; omega)
      rw [htk] at hown
      have HO := Lib.hid hown
      clear htk hown
      go_wp2
      go_ret
      exact ⟨A1, k, c1, rfl, HO.out, hbel⟩
end Go.Proofs.Ytkabkpeamggnnaa

namespace Go.Proofs.Ytkabkpeamggnnaa
set_option linter.unusedVariables false
set_option linter.unusedSimpArgs false
open Go.RowKit

def Apart (u v : Value) : Prop := ∀ b, u.ownBlock = some b → v.ownBlock ≠ some b
theorem apart_l {u v : Value} (h : Apart u v) : u.ownBlock = none ∨ u.ownBlock ≠ v.ownBlock := by
  rcases hb : u.ownBlock with _ | b
  · exact Or.inl rfl
  · exact Or.inr fun e => h b hb e.symm
theorem apart_r {u v : Value} (h : Apart u v) : v.ownBlock = none ∨ v.ownBlock ≠ u.ownBlock := by
  rcases hb : v.ownBlock with _ | b
  · exact Or.inl rfl
  · exact Or.inr fun e => h b e.symm hb
theorem apart_ofl {u v : Value} (h : u.ownBlock = none ∨ u.ownBlock ≠ v.ownBlock) : Apart u v := fun b hb hv => by
  rcases h with h | h
  · rw [h] at hb; cases hb
  · exact h (hb.trans hv.symm)
theorem apart_ofr {u v : Value} (h : v.ownBlock = none ∨ v.ownBlock ≠ u.ownBlock) : Apart u v := fun b hb hv => by
  rcases h with h | h
  · rw [h] at hv; cases hv
  · exact h (hv.trans hb.symm)
theorem hrg4 {w w' : World} {v : Sv} (h : SRd w v) (hb : Below w.heap.size w w') : SRd w' v := h.belowH hb
/-- two lists of digests that were made -/
def MadeDD (W : World) (l l' : List Dg) (e : Ending) (w' : World) : Prop := ∃ A n c A' n' c', e = .returned (.tuple #[.slice A n c, .slice A' n' c']) ∧ w'.ownsRow W.heap.size 60 3 (.slice A n c) n (FC dcl l) ∧ w'.ownsRow W.heap.size 60 3 (.slice A' n' c') n' (FC dcl l') ∧ Below W.heap.size W w'

set_option maxHeartbeats 8000000 in
set_option maxRecDepth 20000 in
theorem rdcompare_any (U : Vw) (l : List Dg) (A : Option Addr) (n c : Nat) (w : World) (h : VRd w U) (hd : DRd w A n l) (hn : U.n ≤ 1000) (hnd : n ≤ 1000) (hfu : VFit U) :
    Calls Try.prog 30 #[vval U, .slice A n c] w (MadeDD w (D.wants U.view l 8) (D.gives U.view l 8)) := by
  obtain ⟨lv, Av, nv', cv⟩ := U
  have HFU := Lib.hid hfu
  simp only at hn
  clear hfu
  simp only [vval]
  go_enter Try.func30, Try.ntmps30
  go_wp2
  go_loopw [6, 7, 8] (fun s1 s2 i wr => ∃ (k m1 : Nat) (A1 : Option Addr) (c1 m2 : Nat) (A2 : Option Addr) (c2 : Nat), k ≤ 8 ∧ i = .int .i64 k ∧ s1 = .slice A1 m1 c1 ∧ s2 = .slice A2 m2 c2 ∧ m1 ≤ k ∧ m2 ≤ k ∧
      wr.ownsRow w.heap.size 60 3 (.slice A1 m1 c1) m1 (FC dcl (D.wants (Vw.view ⟨lv, Av, nv', cv⟩) l k)) ∧ wr.ownsRow w.heap.size 60 3 (.slice A2 m2 c2) m2 (FC dcl (D.gives (Vw.view ⟨lv, Av, nv', cv⟩) l k)) ∧ Apart (.slice A1 m1 c1) (.slice A2 m2 c2) ∧ Below w.heap.size w wr) (fun _ _ i _ => 8 - (intOf i).toNat)
  case atStart => exact ⟨0, 0, none, 0, 0, none, 0, by omega, rfl, rfl, rfl, by omega, by omega, World.ownsRow_nil _ _ _ _, World.ownsRow_nil _ _ _ _, (fun b hb => by cases hb), Below.refl _ _⟩
  case round =>
    obtain ⟨k, m1, A1, c1, m2, A2, c2, hk, rfl, rfl, rfl, hm1, hm2, hw1, hg1, hap, hbel⟩ := hrel
    have hbs := hbel.size
    by_cases hlt : k < 8
    · have hk0 : (0 : Int) ≤ (k : Int) := by omega
      go_wp2_with fail
      refine (rvget_any ⟨lv, Av, nv', cv⟩ (k : Int) wr (h.belowH hbel) (by show nv' ≤ _; omega) HFU.out).mono ?_
      rintro e w2 ⟨⟨sg, Ag, ng, cg⟩, rfl, hsg, hrg, hb2⟩
      simp only at hsg
      have hng : ng ≤ 4000 := by
        have hq : sg.apps.length = ng := hrg.len
        have hq2 := vget_short h HFU.out (V.get (Vw.view ⟨lv, Av, nv', cv⟩) k) rfl
        rw [← hsg] at hq2
        omega
      have HSG := Lib.hid hsg
      clear hsg
      have hbel2 := hbel.trans (hb2.mono hbs)
      have hw2 := own_below hw1 hb2
      have hg2 := own_below hg1 hb2
      clear hb2 hw1 hg1 hbel
      simp only [sv]
      have S3 := Box.new w2 #[.int .i64 sg.gen, .int .i64 sg.beat, .slice Ag ng cg] 40
      have hbel3 := hbel2.alloc hbel2.size (.cells #[.int .i64 sg.gen, .int .i64 sg.beat, .slice Ag ng cg] 40)
      have hw3 := hw2.alloc (.cells #[.int .i64 sg.gen, .int .i64 sg.beat, .slice Ag ng cg] 40)
      have hg3 := hg2.alloc (.cells #[.int .i64 sg.gen, .int .i64 sg.beat, .slice Ag ng cg] 40)
      have hr3 := hrg.allocH (.cells #[.int .i64 sg.gen, .int .i64 sg.beat, .slice Ag ng cg] 40)
      have hbs2 := hbel2.size
      go_wp2_with fail
      have hs3 : w2.heap.size < (w2.alloc (.cells #[.int .i64 sg.gen, .int .i64 sg.beat, .slice Ag ng cg] 40)).heap.size := by simp
      clear hbel2 hw2 hg2 hrg
      generalize w2.alloc (.cells #[.int .i64 sg.gen, .int .i64 sg.beat, .slice Ag ng cg] 40) = w3 at *
      refine (rdfind_any l (k : Int) A n c w3 (hd.belowH hbel3) (by omega)).mono ?_
      rintro e w4 ⟨rfl, hb4⟩
      have hbel4 := hbel3.trans (hb4.mono (by omega))
      have hw4 := own_below hw3 hb4
      have hg4 := own_below hg3 hb4
      have hr4 := hrg4 hr3 hb4
      have S4 := S3.below hb4 hs3
      have hs4 := S4.lt
      clear hb4 hbel3 hw3 hg3 hr3 S3 hs3
      simp only [findV, dgv]
      generalize hdd : (D.find l (k : Int)).getD ⟨0, 0, 0⟩ = dd
      replace hbel4 := hbel4.alloc hbel4.size (.cells #[.int .i64 dd.node, .int .i64 dd.gen, .int .i64 dd.ver] 60)
      replace hw4 := hw4.alloc (.cells #[.int .i64 dd.node, .int .i64 dd.gen, .int .i64 dd.ver] 60)
      replace hg4 := hg4.alloc (.cells #[.int .i64 dd.node, .int .i64 dd.gen, .int .i64 dd.ver] 60)
      replace hr4 := hr4.allocH (.cells #[.int .i64 dd.node, .int .i64 dd.gen, .int .i64 dd.ver] 60)
      replace S4 := S4.alloc (.cells #[.int .i64 dd.node, .int .i64 dd.gen, .int .i64 dd.ver] 60)
      have D4 := Box.new w4 #[.int .i64 dd.node, .int .i64 dd.gen, .int .i64 dd.ver] 60
      have s0 := S4.at 0 rfl
      have s1 := S4.at 1 rfl
      have s2 := S4.at 2 rfl
      have HDD := Lib.hid hdd
      clear hdd
      go_wp2_with fail
      have hs5 : w4.heap.size < (w4.alloc (.cells #[.int .i64 dd.node, .int .i64 dd.gen, .int .i64 dd.ver] 60)).heap.size := by simp
      generalize w4.alloc (.cells #[.int .i64 dd.node, .int .i64 dd.gen, .int .i64 dd.ver] 60) = w5 at *
      refine (rstop_any ⟨sg, Ag, ng, cg⟩ w5 hr4 (by show ng * 32 ≤ _; omega)).mono ?_
      rintro e w6 ⟨rfl, hb6⟩
      replace hbel4 := hbel4.trans (hb6.mono hbel4.size)
      replace hw4 := own_below hw4 hb6
      replace hg4 := own_below hg4 hb6
      have S6 := S4.below hb6 (by omega)
      have D6 := D4.below hb6 (by omega)
      have hbs4 := hbel4.size
      clear s0 s1 s2 S4 D4 hr4 hb6
      have s0 := S6.at 0 rfl
      have s1 := S6.at 1 rfl
      have d0 := D6.at 0 rfl
      have d1 := D6.at 1 rfl
      have d2 := D6.at 2 rfl
      simp only
      rcases hg : V.get (Vw.view ⟨lv, Av, nv', cv⟩) (k : Int) with _ | st <;> rcases hf : D.find l (k : Int) with _ | d
      · skip
        have HW : Hid (D.want (k : Int) (V.get (Vw.view ⟨lv, Av, nv', cv⟩) k) (D.find l k) = []) := Lib.hid (by rw [hg, hf]; rfl)
        have HGV : Hid (D.give (k : Int) (V.get (Vw.view ⟨lv, Av, nv', cv⟩) k) (D.find l k) = []) := Lib.hid (by rw [hg, hf]; rfl)
        clear hg hf
        simp only [Option.isSome]
        go_wp2
        go_roundw
        case rel => exact ⟨k + 1, m1, A1, c1, m2, A2, c2, by omega, by go_num, rfl, rfl, by omega, by omega, by rw [D.wants_succ, HW.out, List.append_nil]; exact hw4, by rw [D.gives_succ, HGV.out, List.append_nil]; exact hg4, hap, hbel4⟩
        case measure => simp [intOf]; omega
      · skip
        obtain rfl : d = dd := by have hq := HDD.out; rw [hf] at hq; exact hq
        have HW : Hid (D.want (k : Int) (V.get (Vw.view ⟨lv, Av, nv', cv⟩) k) (D.find l k) = [⟨k, d.gen, 0⟩]) := Lib.hid (by rw [hg, hf]; rfl)
        have HGV : Hid (D.give (k : Int) (V.get (Vw.view ⟨lv, Av, nv', cv⟩) k) (D.find l k) = []) := Lib.hid (by rw [hg, hf]; rfl)
        clear hg hf
        simp only [Option.isSome]
        go_wp2_with (at_builtin; refine pushS_law (f := dcl) (y := ⟨k, d.gen, 0⟩) dgT dcl_len dcl_one rfl (.tmp 52) (.tmp 57) rfl w.heap.size rfl rfl rfl hw4 (by omega) (by omega) hbs4 ?_; rintro A5 c5 w5 hown5 hb5 hsp; obtain ⟨hg5, hap5⟩ := hsp hg4 (apart_r hap); clear hsp hw4 hg4)
        go_roundw
        case rel =>
          refine ⟨k + 1, m1 + 1, A5, c5, m2, A2, c2, by omega, by go_num, rfl, rfl, by omega, by omega, ?_, ?_, apart_ofr hap5, hbel4.trans hb5⟩
          · rw [D.wants_succ, HW.out]; exact hown5
          · rw [D.gives_succ, HGV.out, List.append_nil]; exact hg5
        case measure => simp [intOf]; omega
      · skip
        obtain rfl : sg = st := by have hq := HSG.out; rw [hg] at hq; exact hq
        have HW : Hid (D.want (k : Int) (V.get (Vw.view ⟨lv, Av, nv', cv⟩) k) (D.find l k) = []) := Lib.hid (by rw [hg, hf]; rfl)
        have HGV : Hid (D.give (k : Int) (V.get (Vw.view ⟨lv, Av, nv', cv⟩) k) (D.find l k) = [⟨k, sg.gen, 0⟩]) := Lib.hid (by rw [hg, hf]; rfl)
        clear hg hf
        simp only [Option.isSome]
        go_wp2_with (at_builtin; refine pushS_law (f := dcl) (y := ⟨k, sg.gen, 0⟩) dgT dcl_len dcl_one rfl (.tmp 69) (.tmp 74) rfl w.heap.size rfl rfl rfl hg4 (by omega) (by omega) hbs4 ?_; rintro A5 c5 w5 hown5 hb5 hsp; obtain ⟨hw5, hap5⟩ := hsp hw4 (apart_l hap); clear hsp hw4 hg4)
        go_roundw
        case rel =>
          refine ⟨k + 1, m1, A1, c1, m2 + 1, A5, c5, by omega, by go_num, rfl, rfl, by omega, by omega, ?_, ?_, apart_ofl hap5, hbel4.trans hb5⟩
          · rw [D.wants_succ, HW.out, List.append_nil]; exact hw5
          · rw [D.gives_succ, HGV.out]; exact hown5
        case measure => simp [intOf]; omega
      · skip
        obtain rfl : sg = st := by have hq := HSG.out; rw [hg] at hq; exact hq
        obtain rfl : d = dd := by have hq := HDD.out; rw [hf] at hq; exact hq
        simp only [Option.isSome]
        by_cases x1 : sg.gen < d.gen
        · skip
          have HW : Hid (D.want (k : Int) (V.get (Vw.view ⟨lv, Av, nv', cv⟩) k) (D.find l k) = [⟨k, d.gen, 0⟩]) := Lib.hid (by rw [hg, hf]; simp [D.want, D.give, x1])
          have HGV : Hid (D.give (k : Int) (V.get (Vw.view ⟨lv, Av, nv', cv⟩) k) (D.find l k) = []) := Lib.hid (by rw [hg, hf]; simp [D.want, D.give, x1])
          clear hg hf
          go_wp2_with (at_builtin; refine pushS_law (f := dcl) (y := ⟨k, d.gen, 0⟩) dgT dcl_len dcl_one rfl (.tmp 52) (.tmp 57) rfl w.heap.size rfl rfl rfl hw4 (by omega) (by omega) hbs4 ?_; rintro A5 c5 w5 hown5 hb5 hsp; obtain ⟨hg5, hap5⟩ := hsp hg4 (apart_r hap); clear hsp hw4 hg4)
          go_roundw
          case rel =>
            refine ⟨k + 1, m1 + 1, A5, c5, m2, A2, c2, by omega, by go_num, rfl, rfl, by omega, by omega, ?_, ?_, apart_ofr hap5, hbel4.trans hb5⟩
            · rw [D.wants_succ, HW.out]; exact hown5
            · rw [D.gives_succ, HGV.out, List.append_nil]; exact hg5
          case measure => simp [intOf]; omega
        · by_cases x2 : d.gen < sg.gen
          · skip
            have HW : Hid (D.want (k : Int) (V.get (Vw.view ⟨lv, Av, nv', cv⟩) k) (D.find l k) = []) := Lib.hid (by rw [hg, hf]; simp [D.want, D.give, x1, x2])
            have HGV : Hid (D.give (k : Int) (V.get (Vw.view ⟨lv, Av, nv', cv⟩) k) (D.find l k) = [⟨k, sg.gen, 0⟩]) := Lib.hid (by rw [hg, hf]; simp [D.want, D.give, x1, x2])
            clear hg hf
            go_wp2_with (at_builtin; refine pushS_law (f := dcl) (y := ⟨k, sg.gen, 0⟩) dgT dcl_len dcl_one rfl (.tmp 69) (.tmp 74) rfl w.heap.size rfl rfl rfl hg4 (by omega) (by omega) hbs4 ?_; rintro A5 c5 w5 hown5 hb5 hsp; obtain ⟨hw5, hap5⟩ := hsp hw4 (apart_l hap); clear hsp hw4 hg4)
            go_roundw
            case rel =>
              refine ⟨k + 1, m1, A1, c1, m2 + 1, A5, c5, by omega, by go_num, rfl, rfl, by omega, by omega, ?_, ?_, apart_ofl hap5, hbel4.trans hb5⟩
              · rw [D.wants_succ, HW.out, List.append_nil]; exact hw5
              · rw [D.gives_succ, HGV.out]; exact hown5
            case measure => simp [intOf]; omega
          · by_cases x3 : S.top sg < d.ver
            · skip
              have HW : Hid (D.want (k : Int) (V.get (Vw.view ⟨lv, Av, nv', cv⟩) k) (D.find l k) = [⟨k, sg.gen, S.top sg⟩]) := Lib.hid (by rw [hg, hf]; simp [D.want, D.give, x1, x2, x3])
              have HGV : Hid (D.give (k : Int) (V.get (Vw.view ⟨lv, Av, nv', cv⟩) k) (D.find l k) = []) := Lib.hid (by rw [hg, hf]; simp [D.want, D.give, x1, x2, x3])
              clear hg hf
              go_wp2_with (at_builtin; refine pushS_law (f := dcl) (y := ⟨k, sg.gen, S.top sg⟩) dgT dcl_len dcl_one rfl (.tmp 81) (.tmp 87) rfl w.heap.size rfl rfl rfl hw4 (by omega) (by omega) hbs4 ?_; rintro A5 c5 w5 hown5 hb5 hsp; obtain ⟨hg5, hap5⟩ := hsp hg4 (apart_r hap); clear hsp hw4 hg4)
              go_roundw
              case rel =>
                refine ⟨k + 1, m1 + 1, A5, c5, m2, A2, c2, by omega, by go_num, rfl, rfl, by omega, by omega, ?_, ?_, apart_ofr hap5, hbel4.trans hb5⟩
                · rw [D.wants_succ, HW.out]; exact hown5
                · rw [D.gives_succ, HGV.out, List.append_nil]; exact hg5
              case measure => simp [intOf]; omega
            · by_cases x4 : d.ver < S.top sg
              · skip
                have HW : Hid (D.want (k : Int) (V.get (Vw.view ⟨lv, Av, nv', cv⟩) k) (D.find l k) = []) := Lib.hid (by rw [hg, hf]; simp [D.want, D.give, x1, x2, x3, x4])
                have HGV : Hid (D.give (k : Int) (V.get (Vw.view ⟨lv, Av, nv', cv⟩) k) (D.find l k) = [⟨k, sg.gen, d.ver⟩]) := Lib.hid (by rw [hg, hf]; simp [D.want, D.give, x1, x2, x3, x4])
                clear hg hf
                go_wp2_with (at_builtin; refine pushS_law (f := dcl) (y := ⟨k, sg.gen, d.ver⟩) dgT dcl_len dcl_one rfl (.tmp 94) (.tmp 101) rfl w.heap.size rfl rfl rfl hg4 (by omega) (by omega) hbs4 ?_; rintro A5 c5 w5 hown5 hb5 hsp; obtain ⟨hw5, hap5⟩ := hsp hw4 (apart_l hap); clear hsp hw4 hg4)
                go_roundw
                case rel =>
                  refine ⟨k + 1, m1, A1, c1, m2 + 1, A5, c5, by omega, by go_num, rfl, rfl, by omega, by omega, ?_, ?_, apart_ofl hap5, hbel4.trans hb5⟩
                  · rw [D.wants_succ, HW.out, List.append_nil]; exact hw5
                  · rw [D.gives_succ, HGV.out]; exact hown5
                case measure => simp [intOf]; omega
              · skip
                have HW : Hid (D.want (k : Int) (V.get (Vw.view ⟨lv, Av, nv', cv⟩) k) (D.find l k) = []) := Lib.hid (by rw [hg, hf]; simp [D.want, D.give, x1, x2, x3, x4])
                have HGV : Hid (D.give (k : Int) (V.get (Vw.view ⟨lv, Av, nv', cv⟩) k) (D.find l k) = []) := Lib.hid (by rw [hg, hf]; simp [D.want, D.give, x1, x2, x3, x4])
                clear hg hf
                go_wp2
                go_roundw
                case rel => exact ⟨k + 1, m1, A1, c1, m2, A2, c2, by omega, by go_num, rfl, rfl, by omega, by omega, by rw [D.wants_succ, HW.out, List.append_nil]; exact hw4, by rw [D.gives_succ, HGV.out, List.append_nil]; exact hg4, hap, hbel4⟩
                case measure => simp [intOf]; omega
    · obtain rfl : k = 8 := by omega
      go_wp2
      go_ret2
      exact ⟨A1, m1, c1, A2, m2, c2, rfl, hw1, hg1, hbel⟩
end Go.Proofs.Ytkabkpeamggnnaa

