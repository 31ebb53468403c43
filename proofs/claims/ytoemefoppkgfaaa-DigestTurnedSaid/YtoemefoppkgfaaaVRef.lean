/- The reference's Copy on views. -/
import Derived.Test.YtoemefoppkgfaaaTRef3
import Derived.Test.YtoemefoppkgfaaaVMem
namespace Go.Proofs.Ytoemefoppkgfaaa
set_option linter.unusedVariables false
set_option linter.unusedSimpArgs false
open Go.RowKit

theorem nmT : SlT Try.prog 22 39 (.agg #[.int .i64 0, .int .i64 0, .int .i64 0, .slice none 0 0]) 4 48 := ⟨Try.underlying22, by kernel_rfl, rfl, by omega⟩
/-- its table lies in a block that was made behind base -/
def Fresh (base : Nat) (v : Sv) : Prop := v.n ≠ 0 → ∃ b o, v.A = some ⟨b, o, none⟩ ∧ base ≤ b
theorem Fresh.mono {base base' : Nat} {v : Sv} (h : Fresh base v) (hb : base' ≤ base) : Fresh base' v := fun hn => by
  obtain ⟨b, o, e, hle⟩ := h hn
  exact ⟨b, o, e, Nat.le_trans hb hle⟩
theorem fresh_own {base base' : Nat} {w : World} {v : Sv} (h : SOwn base w v) (hb : base' ≤ base) : Fresh base' v := fun hn => by
  obtain ⟨b, o, e, _, _⟩ := (Rd.of_own h).2 hn
  exact ⟨b, o, e, Nat.le_trans hb (World.ownsRow.lt h b (by rw [e]; rfl)).1⟩
theorem fresh_zero (base : Nat) (s : St) (A : Option Addr) (c : Nat) : Fresh base ⟨s, A, 0, c⟩ := fun h => absurd rfl h
/-- its row is the call's own, and what its endpoints' tables are lies apart from it -/
def VOwn (base : Nat) (w : World) (V : Vw) : Prop := w.ownsRow base 39 4 (vval V) V.n (FC ncl V.l) ∧ ∀ x ∈ V.l, SRd w x.v ∧ Off (vval V) x.v.A x.v.n ∧ Fresh base x.v
theorem VOwn.vrd {base : Nat} {w : World} {V : Vw} (h : VOwn base w V) : VRd w V := ⟨Rd.of_own h.1, fun x hx => (h.2 x hx).1⟩
theorem VOwn.below {base : Nat} {w w' : World} {V : Vw} (h : VOwn base w V) (hb : Below w.heap.size w w') : VOwn base w' V := ⟨own_below h.1 hb, fun x hx => ⟨(h.2 x hx).1.belowH hb, (h.2 x hx).2⟩⟩
theorem VOwn.mono {base base' : Nat} {w : World} {V : Vw} (h : VOwn base w V) (hb : base' ≤ base) : VOwn base' w V := ⟨own_mono h.1 hb, fun x hx => ⟨(h.2 x hx).1, (h.2 x hx).2.1, (h.2 x hx).2.2.mono hb⟩⟩
/-- a view that was made -/
def MadeV (W : World) (L : List Nm) (e : Ending) (w' : World) : Prop := ∃ V : Vw, e = .returned (vval V) ∧ V.view = L ∧ VOwn W.heap.size w' V ∧ Below W.heap.size W w'
/-- its tables are short enough to be reckoned with -/
def VFit (V : Vw) : Prop := ∀ x ∈ V.l, x.v.n ≤ 4000

/-- a box apart from the row stays behind a push -/
theorem keeps_box {w w' : World} {v v' : Value} {b : Nat} {T : TypeId} {cs : Array Value} (hk : Keeps w w' v v') (X : Box w b T cs) (hne : v.ownBlock ≠ some b) (j : Nat) {u : Value} (hj : cs[j]? = some u) : w'.cell? ⟨b, j, none⟩ = some u := by
  have hr : Rd w w.heap.size cs.size (some ⟨b, 0, none⟩) 1 cs.toList := by
    refine ⟨by simp, fun _ => ⟨b, 0, rfl, X.lt, fun i hi => ?_⟩⟩
    rw [Nat.zero_add]
    have h1 : cs[i]? = some (cs[i]'(by simpa using hi)) := Array.getElem?_eq_getElem _
    rw [X.at i h1, ← Array.getElem?_toList] at *
    exact h1.symm
  obtain ⟨⟨_, hc⟩, _⟩ := hk hr (fun _ b' o' e => by injection e with e; injection e with e; rw [← e]; exact hne)
  obtain ⟨b', o', e, _, hcell⟩ := hc (by omega)
  injection e with e
  injection e with e1 e2
  subst e1 e2
  have hjs : j < cs.size := (Array.getElem?_eq_some_iff.1 hj).1
  have := hcell j (by simpa using hjs)
  rw [Nat.zero_add, Array.getElem?_toList, hj] at this
  exact this
/-- what was made behind a row lies apart from it -/
theorem off_fresh {w : World} {base e size m : Nat} {v : Value} {xs : List Value} {s : Sv} (ho : w.ownsRow base e size v m xs) (hf : Fresh w.heap.size s) : Off v s.A s.n := fun hn b o ea hv => by
  obtain ⟨b', o', e', hle⟩ := hf hn
  rw [ea] at e'
  injection e' with e'
  injection e' with e' _
  have := (World.ownsRow.lt ho b hv).2
  omega
theorem pushF_step {α : Type} {f : α → List Value} {k : Nat} {P : Program} {t e : TypeId} {z : Value} {bytes : Nat} {w : World} {ops : Array Oper} {o : Oper} {a : Act} {K : Act → World → Prop} {Q : Exit → Act → World → Prop} {E : Prop} (T : SlT P t e z k bytes) (hf : ∀ x, (f x).length = k) (h1 : ∀ x, ∀ u ∈ f x, u.oneCell' = true)
    (hgd : o.guard = none) (s x : Operand) (ho : o.op = .call { callee := .builtin .append, args := #[s, x], argTypes := #[t, t] })
    (base : Nat) {A : Option Addr} {m c : Nat} {O : List α} {y : α} {cs : Array Value} {ty : TypeId} (hcs : cs.toList = f y) (hs : a.eval s = .slice A m c) (hx : a.eval x = .slice (some ⟨w.heap.size, 0, none⟩) 1 1)
    (hown : w.ownsRow base e k (.slice A m c) m (FC f O)) (hb : (m + 1) * bytes ≤ 140737488355328) (hm : m + 1 ≤ 140737488355328) (hbase : base ≤ w.heap.size)
    (h : ∀ A' c' w', w'.ownsRow base e k (.slice A' (m + 1) c') (m + 1) (FC f (O ++ [y])) → Below base w w' → Keeps w w' (.slice A m c) (.slice A' (m + 1) c') → K (a.put o.dst (.slice A' (m + 1) c')) w') :
    if Region.wanted o (yielded ops a.tmps) = true then Oper.wp P o a (w.alloc (.cells cs ty)) K Q else E := by
  have hsz : cs.size = 1 * k := by rw [← Array.length_toList, hcs, hf]; omega
  refine step_app_law T hgd s x ho base hs (hown.alloc _) hx (Rd.lit w cs ty k 1 hsz) (by rw [hcs]; exact h1 y) hb hm (by simp; omega) fun A2 c2 w2 ap => ?_
  have hown2 := ap.own
  rw [hcs, show FC f O ++ f y = FC f (O ++ [y]) by rw [FC_append, FC_one]] at hown2
  refine h A2 c2 w2 hown2 (below_app ((Below.refl _ _).alloc hbase _) (hown.alloc _) ap.grown (Nat.le_refl _) (by simp; omega)) ?_
  intro size n A0 xs hr hoff
  have hr2 : Rd (w.alloc (.cells cs ty)) (w.alloc (.cells cs ty)).heap.size size A0 n xs := (hr.alloc (Nat.le_refl _) _).more (by simp)
  exact ⟨hr2.grownX ap.grown hoff, hoff.app hr2 ap.loc⟩

set_option maxHeartbeats 2000000 in
set_option maxRecDepth 20000 in
theorem rvcopy_any (V : Vw) (w : World) (h : VRd w V) (hn : V.n ≤ 1000) (hf : VFit V) :
    Calls Try.prog 34 #[vval V] w (MadeV w V.view) := by
  obtain ⟨l, A, n, c⟩ := V
  have hl := h.len
  simp only at hn hl hf
  have HL := Lib.hid hl
  have HF := Lib.hid hf
  clear hl hf
  simp only [vval]
  go_enter Try.func34, Try.ntmps34
  go_wp2
  go_loopw [3, 4] (fun s i wr => ∃ (k : Nat) (A1 : Option Addr) (c1 : Nat) (O : List Nv), k ≤ n ∧ i = .int .i64 k ∧ s = .slice A1 k c1 ∧ O.map Nv.nm = (l.take k).map Nv.nm ∧
      wr.ownsRow w.heap.size 39 4 (.slice A1 k c1) k (FC ncl O) ∧ (∀ x ∈ O, SRd wr x.v ∧ Off (.slice A1 k c1) x.v.A x.v.n ∧ Fresh w.heap.size x.v) ∧ Below w.heap.size w wr) (fun _ i _ => n - (intOf i).toNat)
  case atStart => exact ⟨0, none, 0, [], by omega, rfl, rfl, rfl, World.ownsRow_nil _ _ _ _, by simp, Below.refl _ _⟩
  case round =>
    obtain ⟨k, A1, c1, O, hk, rfl, rfl, hO, hown, hall, hbel⟩ := hrel
    have HO := Lib.hid hO
    have HALL := Lib.hid hall
    have hbs := hbel.size
    clear hO hall
    by_cases hlt : k < n
    · obtain ⟨b, o, x, e1, hbw, hx, hsr0, c0, c1', c2, c3⟩ := h.at hlt
      simp only at e1 hx
      subst e1
      have hsr := hsr0.belowH hbel
      have hb : b < wr.heap.size := by omega
      replace c0 := (hbel.cell (p := ⟨b, o + k * 4, none⟩) hbw).trans c0
      replace c1' := (hbel.cell (p := ⟨b, o + k * 4 + 1, none⟩) hbw).trans c1'
      replace c2 := (hbel.cell (p := ⟨b, o + k * 4 + 2, none⟩) hbw).trans c2
      replace c3 := (hbel.cell (p := ⟨b, o + k * 4 + 3, none⟩) hbw).trans c3
      clear hsr0
      have hk0 : (0 : Int) ≤ (k : Int) := by omega
      have hfx := HF.out x (List.mem_of_getElem? hx)
      have HX := Lib.hid hx
      clear hx
      go_wp2
      refine wp_region_held_drew (S := (fun w' => w'.cell? ⟨b, o + k * 4, none⟩ = some (.int .i64 x.node) ∧ w'.cell? ⟨b, o + k * 4 + 1, none⟩ = some (.int .i64 x.v.s.gen) ∧ w'.cell? ⟨b, o + k * 4 + 2, none⟩ = some (.int .i64 x.v.s.beat) ∧ w'.cell? ⟨b, o + k * 4 + 3, none⟩ = some (.slice x.v.A x.v.n x.v.c))) (by kernel_rfl) (by exact ⟨c0, c1', c2, c3⟩) (fun hHeld0 => ?_)
      refine wpAnyH_take (i := 0) (oi := ⟨some 11, _, _, _, _, _⟩) (v := ?_) rfl (by kernel_rfl) (by kernel_rfl) (by kernel_rfl) (fun _ _ _ h => h) (Or.inl ⟨by rfl, ?_⟩) hHeld0 ?_
      rotate_left
      · (intro w' hSw; (try dsimp only at hSw); go_simp; all_goals (with_reducible rfl))
      try simp only [Act.put, List.setIfInBounds_toArray, List.set_cons_zero, List.set_cons_succ]
      refine wpAnyH_take (i := 1) (oi := ⟨some 12, _, _, _, _, _⟩) (v := ?_) rfl (by kernel_rfl) (by kernel_rfl) (by kernel_rfl) (fun _ _ _ h => h) (Or.inl ⟨by rfl, ?_⟩) hHeld0 ?_
      rotate_left
      · (intro w' hSw; (try dsimp only at hSw); go_simp; all_goals (with_reducible rfl))
      try simp only [Act.put, List.setIfInBounds_toArray, List.set_cons_zero, List.set_cons_succ]
      refine wpAnyH_take (i := 2) (oi := ⟨some 13, _, _, _, _, _⟩) (v := ?_) rfl (by kernel_rfl) (by kernel_rfl) (by kernel_rfl) (fun _ _ _ h => h) (Or.inl ⟨by rfl, ?_⟩) hHeld0 ?_
      rotate_left
      · (intro w' hSw; (try dsimp only at hSw); go_simp; all_goals (with_reducible rfl))
      try simp only [Act.put, List.setIfInBounds_toArray, List.set_cons_zero, List.set_cons_succ]
      refine wpAnyH_take (i := 3) (oi := ⟨some 14, _, _, _, _, _⟩) (v := ?_) rfl (by kernel_rfl) (by kernel_rfl) (by kernel_rfl) (fun _ _ _ h => h) (Or.inl ⟨by rfl, ?_⟩) hHeld0 ?_
      rotate_left
      · (intro w' hSw; (try dsimp only at hSw); go_simp; all_goals (with_reducible rfl))
      try simp only [Act.put, List.setIfInBounds_toArray, List.set_cons_zero, List.set_cons_succ]
      refine wpAnyH_take (i := 4) (oi := ⟨some 15, _, _, _, _, _⟩) (v := ?_) rfl (by kernel_rfl) (by kernel_rfl) (by kernel_rfl) (fun _ _ _ h => h) (Or.inl ⟨by rfl, ?_⟩) hHeld0 ?_
      rotate_left
      · (intro w' hSw; (try dsimp only at hSw); go_simp; all_goals (with_reducible rfl))
      try simp only [Act.put, List.setIfInBounds_toArray, List.set_cons_zero, List.set_cons_succ]
      refine wpAnyH_take (i := 5) (oi := ⟨some 16, _, _, _, _, _⟩) (v := ?_) rfl (by kernel_rfl) (by kernel_rfl) (by kernel_rfl) (fun _ _ _ h => h) (Or.inl ⟨by rfl, ?_⟩) hHeld0 ?_
      rotate_left
      · (intro w' hSw; (try dsimp only at hSw); go_simp; all_goals (with_reducible rfl))
      try simp only [Act.put, List.setIfInBounds_toArray, List.set_cons_zero, List.set_cons_succ]
      refine wpAnyH_take (i := 6) (oi := ⟨some 17, _, _, _, _, _⟩) (v := ?_) rfl (by kernel_rfl) (by kernel_rfl) (by kernel_rfl) (fun _ _ _ h => h) (Or.inl ⟨by rfl, ?_⟩) hHeld0 ?_
      rotate_left
      · (intro w' hSw; (try dsimp only at hSw); go_simp; all_goals (with_reducible rfl))
      try simp only [Act.put, List.setIfInBounds_toArray, List.set_cons_zero, List.set_cons_succ]
      refine wpAnyH_take (i := 7) (oi := ⟨some 18, _, _, _, _, _⟩) (v := ?_) rfl (by kernel_rfl) (by kernel_rfl) (by kernel_rfl) (fun _ _ _ h => h) (Or.inl ⟨by rfl, ?_⟩) hHeld0 ?_
      rotate_left
      · (intro w' hSw; (try dsimp only at hSw); go_simp; all_goals (with_reducible rfl))
      try simp only [Act.put, List.setIfInBounds_toArray, List.set_cons_zero, List.set_cons_succ]
      refine wpAnyH_take (i := 8) (oi := ⟨some 19, _, _, _, _, _⟩) (v := ?_) rfl (by kernel_rfl) (by kernel_rfl) (by kernel_rfl) (fun _ _ _ h => h) (Or.inl ⟨by rfl, ?_⟩) hHeld0 ?_
      rotate_left
      · (intro w' hSw; (try dsimp only at hSw); go_simp; all_goals (with_reducible rfl))
      try simp only [Act.put, List.setIfInBounds_toArray, List.set_cons_zero, List.set_cons_succ]
      refine wpAnyH_take (i := 9) (oi := ⟨some 20, _, _, _, _, _⟩) (v := ?_) rfl (by kernel_rfl) (by kernel_rfl) (by kernel_rfl) (fun _ _ _ h => h) (Or.inl ⟨by rfl, ?_⟩) hHeld0 ?_
      rotate_left
      · (intro w' hSw; (try dsimp only at hSw); go_simp; all_goals (with_reducible rfl))
      try simp only [Act.put, List.setIfInBounds_toArray, List.set_cons_zero, List.set_cons_succ]
      refine wpAnyH_take (i := 10) (oi := ⟨some 21, _, _, _, _, _⟩) (v := ?_) rfl (by kernel_rfl) (by kernel_rfl) (by kernel_rfl) (fun _ _ _ h => h) (Or.inl ⟨by rfl, ?_⟩) hHeld0 ?_
      rotate_left
      · (intro w' hSw; (try dsimp only at hSw); go_simp; all_goals (with_reducible rfl))
      try simp only [Act.put, List.setIfInBounds_toArray, List.set_cons_zero, List.set_cons_succ]
      refine wpAnyH_ready (rs := [11]) (by kernel_rfl) (by simp) (AllReadyH.cons (o := ⟨some 22, _, _, _, _, _⟩) rfl (fun K hK => ?_) AllReadyH.nil)
      go_simp
      refine (rscopy_any x.v _ hsr.drew (by omega)).mono ?_
      rintro e w2 ⟨⟨s2, A2, n2, c2'⟩, rfl, hs2, hown2, hb2⟩
      simp only at hs2
      subst hs2
      have hb2' : Below wr.heap.size wr w2 := (Below.refl _ _).drew.trans hb2
      have hlw : b < wr.heap.size := hb
      replace c0 := (hb2'.cell (p := ⟨b, o + k * 4, none⟩) (by show b < _; omega)).trans c0
      replace c1' := (hb2'.cell (p := ⟨b, o + k * 4 + 1, none⟩) (by show b < _; omega)).trans c1'
      replace c2 := (hb2'.cell (p := ⟨b, o + k * 4 + 2, none⟩) (by show b < _; omega)).trans c2
      replace c3 := (hb2'.cell (p := ⟨b, o + k * 4 + 3, none⟩) (by show b < _; omega)).trans c3
      have hown3 := own_below hown hb2'
      simp only [sv]
      go_simp
      refine hK.out _ _ (by exact ⟨c0, c1', c2, c3⟩) (fun hHeld1 => ?_)
      clear hK hHeld0 K
      try simp only [Act.put, List.setIfInBounds_toArray, List.set_cons_zero, List.set_cons_succ]
      refine wpAnyH_take (i := 12) (oi := ⟨some 23, _, _, _, _, _⟩) (v := ?_) rfl (by kernel_rfl) (by kernel_rfl) (by kernel_rfl) (fun _ _ _ h => h) (Or.inl ⟨by rfl, ?_⟩) hHeld1 ?_
      rotate_left
      · (intro w' hSw; (try dsimp only at hSw); go_simp; all_goals (with_reducible rfl))
      try simp only [Act.put, List.setIfInBounds_toArray, List.set_cons_zero, List.set_cons_succ]
      refine wpAnyH_ready (rs := [13]) (by kernel_rfl) (by simp) (AllReadyH.cons (o := ⟨some 24, _, _, _, _, _⟩) rfl (fun K hK => ?_) AllReadyH.nil)
      go_simp
      have hb2l : b < w2.heap.size := by have := hb2'.size; omega
      have g0 := c0
      have g1 := c1'
      have g2 := c2
      have g3 := c3
      replace c0 := (World.cell?_alloc_lt w2 (.cells #[.int .i64 x.node, .int .i64 x.v.s.gen, .int .i64 x.v.s.beat, .slice A2 n2 c2'] 39) ⟨b, o + k * 4, none⟩ hb2l).trans c0
      replace c1' := (World.cell?_alloc_lt w2 (.cells #[.int .i64 x.node, .int .i64 x.v.s.gen, .int .i64 x.v.s.beat, .slice A2 n2 c2'] 39) ⟨b, o + k * 4 + 1, none⟩ hb2l).trans c1'
      replace c2 := (World.cell?_alloc_lt w2 (.cells #[.int .i64 x.node, .int .i64 x.v.s.gen, .int .i64 x.v.s.beat, .slice A2 n2 c2'] 39) ⟨b, o + k * 4 + 2, none⟩ hb2l).trans c2
      replace c3 := (World.cell?_alloc_lt w2 (.cells #[.int .i64 x.node, .int .i64 x.v.s.gen, .int .i64 x.v.s.beat, .slice A2 n2 c2'] 39) ⟨b, o + k * 4 + 3, none⟩ hb2l).trans c3
      go_simp
      refine hK.out _ _ (by exact ⟨c0, c1', c2, c3⟩) (fun hHeld2 => ?_)
      clear hK hHeld1 K
      try simp only [Act.put, List.setIfInBounds_toArray, List.set_cons_zero, List.set_cons_succ]
      refine wpAnyH_ready (rs := [14]) (by kernel_rfl) (by simp) (AllReadyH.cons (o := ⟨some 25, _, _, _, _, _⟩) rfl (fun K hK => ?_) AllReadyH.nil)
      refine pushF_step (f := ncl) (y := ⟨x.node, ⟨x.v.s, A2, n2, c2'⟩⟩) nmT ncl_len ncl_one rfl (.tmp 11) (.tmp 24) (by rfl) w.heap.size rfl (by rfl) (by rfl) hown3 (by omega) (by omega) (by have := hb2'.size; omega) ?_
      rintro A3 c3' w3 hown4 hb3 hkeep
      have hs2 : wr.heap.size ≤ w2.heap.size := hb2'.size
      have hb3' : Below w.heap.size w2 w3 := hb3
      have hcell : ∀ o', w3.cell? ⟨b, o', none⟩ = w2.cell? ⟨b, o', none⟩ := fun o' => hb3.cell (p := ⟨b, o', none⟩) hbw
      replace c0 := (hcell _).trans g0
      replace c1' := (hcell _).trans g1
      replace c2 := (hcell _).trans g2
      replace c3 := (hcell _).trans g3
      clear hcell
      go_simp
      refine hK.out _ _ (by exact ⟨c0, c1', c2, c3⟩) (fun hHeld3 => ?_)
      clear hK hHeld2 K
      try simp only [Act.put, List.setIfInBounds_toArray, List.set_cons_zero, List.set_cons_succ]
      refine wpAnyH_take (i := 15) (oi := ⟨some 3, _, _, _, _, _⟩) (v := ?_) rfl (by kernel_rfl) (by kernel_rfl) (by kernel_rfl) (fun _ _ _ h => h) (Or.inl ⟨by rfl, ?_⟩) hHeld3 ?_
      rotate_left
      · (intro w' hSw; (try dsimp only at hSw); go_simp; all_goals (with_reducible rfl))
      try simp only [Act.put, List.setIfInBounds_toArray, List.set_cons_zero, List.set_cons_succ]
      refine wpAnyH_done (by kernel_rfl) ?_ _
      go_wp2
      go_roundw
      case rel =>
        refine ⟨k + 1, A3, c3', O ++ [⟨x.node, ⟨x.v.s, A2, n2, c2'⟩⟩], by omega, by go_num, rfl, ?_, hown4, ?_, (hbel.trans (hb2'.mono hbs)).trans hb3⟩
        · rw [List.map_append, HO.out, take_more HX.out, List.map_append]; rfl
        · intro y hy
          rcases List.mem_append.1 hy with hy | hy
          · have h1 := HALL.out y hy
            have h8 := hkeep (h1.1.belowH hb2') h1.2.1
            exact ⟨h8.1, h8.2, h1.2.2⟩
          · obtain rfl : y = ⟨x.node, ⟨x.v.s, A2, n2, c2'⟩⟩ := by simpa using hy
            have h8 := hkeep hown2.srd (off_made hown hown2 (Nat.le_refl _))
            exact ⟨h8.1, h8.2, fresh_own hown2 hbs⟩
      case measure => simp [intOf]; omega
    · have he : l.take k = l := List.take_of_length_le (by have := HL.out; omega)
      have hO := HO.out
      rw [he] at hO
      have HO2 := Lib.hid hO
      clear hO he
      go_wp2
      go_ret
      exact ⟨⟨O, A1, k, c1⟩, rfl, HO2.out, ⟨hown, HALL.out⟩, hbel⟩
end Go.Proofs.Ytoemefoppkgfaaa
