/- VRef VRef2 VRef3 (merged). -/
import Derived.Test.YtkabkpeamggnnaaJMem
import Derived.Test.YtkabkpeamggnnaaJTRef
namespace Go.Proofs.Ytkabkpeamggnnaa
set_option linter.unusedVariables false
set_option linter.unusedSimpArgs false
open Go.RowKit

theorem nmT : SlT Try.prog 22 49 (.agg #[.int .i64 0, .int .i64 0, .int .i64 0, .slice none 0 0]) 4 48 := ⟨Try.underlying22, by kernel_rfl, rfl, by omega⟩
/-- its table lies in a block that was made behind base -/
def Fresh (base : Nat) (v : Sv) : Prop := v.n ≠ 0 → ∃ b o, v.A = some ⟨b, o, none⟩ ∧ base ≤ b
theorem Fresh.mono {base base' : Nat} {v : Sv} (h : Fresh base v) (hb : base' ≤ base) : Fresh base' v := fun hn => by
  obtain ⟨b, o, e, hle⟩ := h hn
  exact ⟨b, o, e, Nat.le_trans hb hle⟩
theorem fresh_own {base base' : Nat} {w : World} {v : Sv} (h : SOwn base w v) (hb : base' ≤ base) : Fresh base' v := fun hn => by
  obtain ⟨b, o, e, _, _⟩ := (Rd.of_own h).2 hn
  exact ⟨b, o, e, Nat.le_trans hb (World.ownsRow.lt h b (by rw [e]; rfl)).1⟩
theorem fresh_zero (base : Nat) (s : St) (A : Option Addr) (c : Nat) : Fresh base ⟨s, A, 0, c⟩ := fun h => absurd rfl h
/-- its row is the call's own, and what its endpoints' tables are lies apart from it -/
def VOwn (base : Nat) (w : World) (V : Vw) : Prop := w.ownsRow base 49 4 (vval V) V.n (FC ncl V.l) ∧ ∀ x ∈ V.l, SRd w x.v ∧ Off (vval V) x.v.A x.v.n ∧ Fresh base x.v
theorem VOwn.vrd {base : Nat} {w : World} {V : Vw} (h : VOwn base w V) : VRd w V := ⟨Rd.of_own h.1, fun x hx => (h.2 x hx).1⟩
theorem VOwn.below {base : Nat} {w w' : World} {V : Vw} (h : VOwn base w V) (hb : Below w.heap.size w w') : VOwn base w' V := ⟨own_below h.1 hb, fun x hx => ⟨(h.2 x hx).1.belowH hb, (h.2 x hx).2⟩⟩
theorem VOwn.mono {base base' : Nat} {w : World} {V : Vw} (h : VOwn base w V) (hb : base' ≤ base) : VOwn base' w V := ⟨own_mono h.1 hb, fun x hx => ⟨(h.2 x hx).1, (h.2 x hx).2.1, (h.2 x hx).2.2.mono hb⟩⟩
/-- a view that was made -/
def MadeV (W : World) (L : List Nm) (e : Ending) (w' : World) : Prop := ∃ V : Vw, e = .returned (vval V) ∧ V.view = L ∧ VOwn W.heap.size w' V ∧ Below W.heap.size W w'
/-- its tables are short enough to be reckoned with -/
def VFit (V : Vw) : Prop := ∀ x ∈ V.l, x.v.n ≤ 4000

/-- a box apart from the row stays behind a push -/
theorem keeps_box {w w' : World} {v v' : Value} {b : Nat} {T : TypeId} {cs : Array Value} (hk : Keeps w w' v v') (X : Box w b T cs) (hne : v.ownBlock ≠ some b) (j : Nat) {u : Value} (hj : cs[j]? = some u) : w'.cell? ⟨b, j, none⟩ = some u := by
  have hr : Rd w w.heap.size cs.size (some ⟨b, 0, none⟩) 1 cs.toList := by
    refine ⟨by simp, fun _ => ⟨b, 0, rfl, X.lt, fun i hi => ?_⟩⟩
    rw [Nat.zero_add]
    have h1 : cs[i]? = some (cs[i]'(by simpa using hi)) := Array.getElem?_eq_getElem _
    rw [X.at i h1, ← Array.getElem?_toList] at *
    exact h1.symm
  obtain ⟨⟨_, hc⟩, _⟩ := hk hr (fun _ b' o' e => by injection e with e; injection e with e; rw [← e]; exact hne)
  obtain ⟨b', o', e, _, hcell⟩ := hc (by omega)
  injection e with e
  injection e with e1 e2
  subst e1 e2
  have hjs : j < cs.size := (Array.getElem?_eq_some_iff.1 hj).1
  have := hcell j (by simpa using hjs)
  rw [Nat.zero_add, Array.getElem?_toList, hj] at this
  exact this
/-- what was made behind a row lies apart from it -/
theorem off_fresh {w : World} {base e size m : Nat} {v : Value} {xs : List Value} {s : Sv} (ho : w.ownsRow base e size v m xs) (hf : Fresh w.heap.size s) : Off v s.A s.n := fun hn b o ea hv => by
  obtain ⟨b', o', e', hle⟩ := hf hn
  rw [ea] at e'
  injection e' with e'
  injection e' with e' _
  have := (World.ownsRow.lt ho b hv).2
  omega
theorem pushF_step {α : Type} {f : α → List Value} {k : Nat} {P : Program} {t e : TypeId} {z : Value} {bytes : Nat} {w : World} {ops : Array Oper} {o : Oper} {a : Act} {K : Act → World → Prop} {Q : Exit → Act → World → Prop} {E : Prop} (T : SlT P t e z k bytes) (hf : ∀ x, (f x).length = k) (h1 : ∀ x, ∀ u ∈ f x, u.oneCell' = true)
    (hgd : o.guard = none) (s x : Operand) (ho : o.op = .call { callee := .builtin .append, args := #[s, x], argTypes := #[t, t] })
    (base : Nat) {A : Option Addr} {m c : Nat} {O : List α} {y : α} {cs : Array Value} {ty : TypeId} (hcs : cs.toList = f y) (hs : a.eval s = .slice A m c) (hx : a.eval x = .slice (some ⟨w.heap.size, 0, none⟩) 1 1)
    (hown : w.ownsRow base e k (.slice A m c) m (FC f O)) (hb : (m + 1) * bytes ≤ 140737488355328) (hm : m + 1 ≤ 140737488355328) (hbase : base ≤ w.heap.size)
    (h : ∀ A' c' w', w'.ownsRow base e k (.slice A' (m + 1) c') (m + 1) (FC f (O ++ [y])) → Below base w w' → Keeps w w' (.slice A m c) (.slice A' (m + 1) c') → K (a.put o.dst (.slice A' (m + 1) c')) w') :
    if Region.wanted o (yielded ops a.tmps) = true then Oper.wp P o a (w.alloc (.cells cs ty)) K Q else E := by
  have hsz : cs.size = 1 * k := by rw [← Array.length_toList, hcs, hf]; omega
  refine step_app_law T hgd s x ho base hs (hown.alloc _) hx (Rd.lit w cs ty k 1 hsz) (by rw [hcs]; exact h1 y) hb hm (by simp; omega) fun A2 c2 w2 ap => ?_
  have hown2 := ap.own
  rw [hcs, show FC f O ++ f y = FC f (O ++ [y]) by rw [FC_append, FC_one]] at hown2
  refine h A2 c2 w2 hown2 (below_app ((Below.refl _ _).alloc hbase _) (hown.alloc _) ap.grown (Nat.le_refl _) (by simp; omega)) ?_
  intro size n A0 xs hr hoff
  have hr2 : Rd (w.alloc (.cells cs ty)) (w.alloc (.cells cs ty)).heap.size size A0 n xs := (hr.alloc (Nat.le_refl _) _).more (by simp)
  exact ⟨hr2.grownX ap.grown hoff, hoff.app hr2 ap.loc⟩

set_option maxHeartbeats 2000000 in
set_option maxRecDepth 20000 in
theorem rvcopy_any (V : Vw) (w : World) (h : VRd w V) (hn : V.n ≤ 1000) (hf : VFit V) :
    Calls Try.prog 20 #[vval V] w (MadeV w V.view) := by
  obtain ⟨l, A, n, c⟩ := V
  have hl := h.len
  simp only at hn hl hf
  have HL := Lib.hid hl
  have HF := Lib.hid hf
  clear hl hf
  simp only [vval]
  go_enter Try.func20, Try.ntmps20
  go_wp2
  go_loopw [3, 4] (fun s i wr => ∃ (k : Nat) (A1 : Option Addr) (c1 : Nat) (O : List Nv), k ≤ n ∧ i = .int .i64 k ∧ s = .slice A1 k c1 ∧ O.map Nv.nm = (l.take k).map Nv.nm ∧
      wr.ownsRow w.heap.size 49 4 (.slice A1 k c1) k (FC ncl O) ∧ (∀ x ∈ O, SRd wr x.v ∧ Off (.slice A1 k c1) x.v.A x.v.n ∧ Fresh w.heap.size x.v) ∧ Below w.heap.size w wr) (fun _ i _ => n - (intOf i).toNat)
  case atStart => exact ⟨0, none, 0, [], by omega, rfl, rfl, rfl, World.ownsRow_nil _ _ _ _, by simp, Below.refl _ _⟩
  case round =>
    obtain ⟨k, A1, c1, O, hk, rfl, rfl, hO, hown, hall, hbel⟩ := hrel
    have HO := Lib.hid hO
    have HALL := Lib.hid hall
    have hbs := hbel.size
    clear hO hall
    by_cases hlt : k < n
    · obtain ⟨b, o, x, e1, hbw, hx, hsr0, c0, c1', c2, c3⟩ := h.at hlt
      simp only at e1 hx
      subst e1
      have hsr := hsr0.belowH hbel
      have hb : b < wr.heap.size := by omega
      replace c0 := (hbel.cell (p := ⟨b, o + k * 4, none⟩) hbw).trans c0
      replace c1' := (hbel.cell (p := ⟨b, o + k * 4 + 1, none⟩) hbw).trans c1'
      replace c2 := (hbel.cell (p := ⟨b, o + k * 4 + 2, none⟩) hbw).trans c2
      replace c3 := (hbel.cell (p := ⟨b, o + k * 4 + 3, none⟩) hbw).trans c3
      clear hsr0
      have hk0 : (0 : Int) ≤ (k : Int) := by omega
      have hfx := HF.out x (List.mem_of_getElem? hx)
      have HX := Lib.hid hx
      clear hx
      go_wp2
      refine wp_region_held_drew (S := (fun w' => w'.cell? ⟨b, o + k * 4, none⟩ = some (.int .i64 x.node) ∧ w'.cell? ⟨b, o + k * 4 + 1, none⟩ = some (.int .i64 x.v.s.gen) ∧ w'.cell? ⟨b, o + k * 4 + 2, none⟩ = some (.int .i64 x.v.s.beat) ∧ w'.cell? ⟨b, o + k * 4 + 3, none⟩ = some (.slice x.v.A x.v.n x.v.c))) (by kernel_rfl) (by exact ⟨c0, c1', c2, c3⟩) (fun hHeld0 => ?_)
      refine wpAnyH_take (i := 0) (oi := ⟨some 11, _, _, _, _, _⟩) (v := ?_) rfl (by kernel_rfl) (by kernel_rfl) (by kernel_rfl) (fun _ _ _ h => h) (Or.inl ⟨by rfl, ?_⟩) hHeld0 ?_
      rotate_left
      · (intro w' hSw; (try dsimp only at hSw); go_simp; all_goals (with_reducible rfl))
      try simp only [Act.put, sA, sB, sC]
      refine wpAnyH_take (i := 1) (oi := ⟨some 12, _, _, _, _, _⟩) (v := ?_) rfl (by kernel_rfl) (by kernel_rfl) (by kernel_rfl) (fun _ _ _ h => h) (Or.inl ⟨by rfl, ?_⟩) hHeld0 ?_
      rotate_left
      · (intro w' hSw; (try dsimp only at hSw); go_simp; all_goals (with_reducible rfl))
      try simp only [Act.put, sA, sB, sC]
      refine wpAnyH_take (i := 2) (oi := ⟨some 13, _, _, _, _, _⟩) (v := ?_) rfl (by kernel_rfl) (by kernel_rfl) (by kernel_rfl) (fun _ _ _ h => h) (Or.inl ⟨by rfl, ?_⟩) hHeld0 ?_
      rotate_left
      · (intro w' hSw; (try dsimp only at hSw); go_simp; all_goals (with_reducible rfl))
      try simp only [Act.put, sA, sB, sC]
      refine wpAnyH_take (i := 3) (oi := ⟨some 14, _, _, _, _, _⟩) (v := ?_) rfl (by kernel_rfl) (by kernel_rfl) (by kernel_rfl) (fun _ _ _ h => h) (Or.inl ⟨by rfl, ?_⟩) hHeld0 ?_
      rotate_left
      · (intro w' hSw; (try dsimp only at hSw); go_simp; all_goals (with_reducible rfl))
      try simp only [Act.put, sA, sB, sC]
      refine wpAnyH_take (i := 4) (oi := ⟨some 15, _, _, _, _, _⟩) (v := ?_) rfl (by kernel_rfl) (by kernel_rfl) (by kernel_rfl) (fun _ _ _ h => h) (Or.inl ⟨by rfl, ?_⟩) hHeld0 ?_
      rotate_left
      · (intro w' hSw; (try dsimp only at hSw); go_simp; all_goals (with_reducible rfl))
      try simp only [Act.put, sA, sB, sC]
      refine wpAnyH_take (i := 5) (oi := ⟨some 16, _, _, _, _, _⟩) (v := ?_) rfl (by kernel_rfl) (by kernel_rfl) (by kernel_rfl) (fun _ _ _ h => h) (Or.inl ⟨by rfl, ?_⟩) hHeld0 ?_
      rotate_left
      · (intro w' hSw; (try dsimp only at hSw); go_simp; all_goals (with_reducible rfl))
      try simp only [Act.put, sA, sB, sC]
      refine wpAnyH_take (i := 6) (oi := ⟨some 17, _, _, _, _, _⟩) (v := ?_) rfl (by kernel_rfl) (by kernel_rfl) (by kernel_rfl) (fun _ _ _ h => h) (Or.inl ⟨by rfl, ?_⟩) hHeld0 ?_
      rotate_left
      · (intro w' hSw; (try dsimp only at hSw); go_simp; all_goals (with_reducible rfl))
      try simp only [Act.put, sA, sB, sC]
      refine wpAnyH_take (i := 7) (oi := ⟨some 18, _, _, _, _, _⟩) (v := ?_) rfl (by kernel_rfl) (by kernel_rfl) (by kernel_rfl) (fun _ _ _ h => h) (Or.inl ⟨by rfl, ?_⟩) hHeld0 ?_
      rotate_left
      · (intro w' hSw; (try dsimp only at hSw); go_simp; all_goals (with_reducible rfl))
      try simp only [Act.put, sA, sB, sC]
      refine wpAnyH_take (i := 8) (oi := ⟨some 19, _, _, _, _, _⟩) (v := ?_) rfl (by kernel_rfl) (by kernel_rfl) (by kernel_rfl) (fun _ _ _ h => h) (Or.inl ⟨by rfl, ?_⟩) hHeld0 ?_
      rotate_left
      · (intro w' hSw; (try dsimp only at hSw); go_simp; all_goals (with_reducible rfl))
      try simp only [Act.put, sA, sB, sC]
      refine wpAnyH_take (i := 9) (oi := ⟨some 20, _, _, _, _, _⟩) (v := ?_) rfl (by kernel_rfl) (by kernel_rfl) (by kernel_rfl) (fun _ _ _ h => h) (Or.inl ⟨by rfl, ?_⟩) hHeld0 ?_
      rotate_left
      · (intro w' hSw; (try dsimp only at hSw); go_simp; all_goals (with_reducible rfl))
      try simp only [Act.put, sA, sB, sC]
      refine wpAnyH_take (i := 10) (oi := ⟨some 21, _, _, _, _, _⟩) (v := ?_) rfl (by kernel_rfl) (by kernel_rfl) (by kernel_rfl) (fun _ _ _ h => h) (Or.inl ⟨by rfl, ?_⟩) hHeld0 ?_
      rotate_left
      · (intro w' hSw; (try dsimp only at hSw); go_simp; all_goals (with_reducible rfl))
      try simp only [Act.put, sA, sB, sC]
      refine wpAnyH_ready (rs := [11]) (by kernel_rfl) (by simp) (AllReadyH.cons (o := ⟨some 22, _, _, _, _, _⟩) rfl (fun K hK => ?_) AllReadyH.nil)
      go_simp
      refine (rscopy_any x.v _ hsr.drew (by omega)).mono ?_
      rintro e w2 ⟨⟨s2, A2, n2, c2'⟩, rfl, hs2, hown2, hb2⟩
      simp only at hs2
      subst hs2
      have hb2' : Below wr.heap.size wr w2 := (Below.refl _ _).drew.trans hb2
      have hlw : b < wr.heap.size := hb
      replace c0 := (hb2'.cell (p := ⟨b, o + k * 4, none⟩) (by show b < _; omega)).trans c0
      replace c1' := (hb2'.cell (p := ⟨b, o + k * 4 + 1, none⟩) (by show b < _; omega)).trans c1'
      replace c2 := (hb2'.cell (p := ⟨b, o + k * 4 + 2, none⟩) (by show b < _; omega)).trans c2
      replace c3 := (hb2'.cell (p := ⟨b, o + k * 4 + 3, none⟩) (by show b < _; omega)).trans c3
      have hown3 := own_below hown hb2'
      simp only [sv]
      go_simp
      refine hK.out _ _ (by exact ⟨c0, c1', c2, c3⟩) (fun hHeld1 => ?_)
      clear hK hHeld0 K
      try simp only [Act.put, sA, sB, sC]
      refine wpAnyH_take (i := 12) (oi := ⟨some 23, _, _, _, _, _⟩) (v := ?_) rfl (by kernel_rfl) (by kernel_rfl) (by kernel_rfl) (fun _ _ _ h => h) (Or.inl ⟨by rfl, ?_⟩) hHeld1 ?_
      rotate_left
      · (intro w' hSw; (try dsimp only at hSw); go_simp; all_goals (with_reducible rfl))
      try simp only [Act.put, sA, sB, sC]
      refine wpAnyH_ready (rs := [13]) (by kernel_rfl) (by simp) (AllReadyH.cons (o := ⟨some 24, _, _, _, _, _⟩) rfl (fun K hK => ?_) AllReadyH.nil)
      go_simp
      have hb2l : b < w2.heap.size := by have := hb2'.size; omega
      have g0 := c0
      have g1 := c1'
      have g2 := c2
      have g3 := c3
      replace c0 := (World.cell?_alloc_lt w2 (.cells #[.int .i64 x.node, .int .i64 x.v.s.gen, .int .i64 x.v.s.beat, .slice A2 n2 c2'] 49) ⟨b, o + k * 4, none⟩ hb2l).trans c0
      replace c1' := (World.cell?_alloc_lt w2 (.cells #[.int .i64 x.node, .int .i64 x.v.s.gen, .int .i64 x.v.s.beat, .slice A2 n2 c2'] 49) ⟨b, o + k * 4 + 1, none⟩ hb2l).trans c1'
      replace c2 := (World.cell?_alloc_lt w2 (.cells #[.int .i64 x.node, .int .i64 x.v.s.gen, .int .i64 x.v.s.beat, .slice A2 n2 c2'] 49) ⟨b, o + k * 4 + 2, none⟩ hb2l).trans c2
      replace c3 := (World.cell?_alloc_lt w2 (.cells #[.int .i64 x.node, .int .i64 x.v.s.gen, .int .i64 x.v.s.beat, .slice A2 n2 c2'] 49) ⟨b, o + k * 4 + 3, none⟩ hb2l).trans c3
      go_simp
      refine hK.out _ _ (by exact ⟨c0, c1', c2, c3⟩) (fun hHeld2 => ?_)
      clear hK hHeld1 K
      try simp only [Act.put, sA, sB, sC]
      refine wpAnyH_ready (rs := [14]) (by kernel_rfl) (by simp) (AllReadyH.cons (o := ⟨some 25, _, _, _, _, _⟩) rfl (fun K hK => ?_) AllReadyH.nil)
      refine pushF_step (f := ncl) (y := ⟨x.node, ⟨x.v.s, A2, n2, c2'⟩⟩) nmT ncl_len ncl_one rfl (.tmp 11) (.tmp 24) (by rfl) w.heap.size rfl (by rfl) (by rfl) hown3 (by omega) (by omega) (by have := hb2'.size; omega) ?_
      rintro A3 c3' w3 hown4 hb3 hkeep
      have hs2 : wr.heap.size ≤ w2.heap.size := hb2'.size
      have hb3' : Below w.heap.size w2 w3 := hb3
      have hcell : ∀ o', w3.cell? ⟨b, o', none⟩ = w2.cell? ⟨b, o', none⟩ := fun o' => hb3.cell (p := ⟨b, o', none⟩) hbw
      replace c0 := (hcell _).trans g0
      replace c1' := (hcell _).trans g1
      replace c2 := (hcell _).trans g2
      replace c3 := (hcell _).trans g3
      clear hcell
      go_simp
      refine hK.out _ _ (by exact ⟨c0, c1', c2, c3⟩) (fun hHeld3 => ?_)
      clear hK hHeld2 K
      try simp only [Act.put, sA, sB, sC]
      refine wpAnyH_take (i := 15) (oi := ⟨some 3, _, _, _, _, _⟩) (v := ?_) rfl (by kernel_rfl) (by kernel_rfl) (by kernel_rfl) (fun _ _ _ h => h) (Or.inl ⟨by rfl, ?_⟩) hHeld3 ?_
      rotate_left
      · (intro w' hSw; (try dsimp only at hSw); go_simp; all_goals (with_reducible rfl))
      try simp only [Act.put, sA, sB, sC]
      refine wpAnyH_done (by kernel_rfl) ?_ _
      go_wp2
      go_roundw
      case rel =>
        refine ⟨k + 1, A3, c3', O ++ [⟨x.node, ⟨x.v.s, A2, n2, c2'⟩⟩], by omega, by go_num, rfl, ?_, hown4, ?_, (hbel.trans (hb2'.mono hbs)).trans hb3⟩
        · rw [List.map_append, HO.out, take_more HX.out, List.map_append]; rfl
        · intro y hy
          rcases List.mem_append.1 hy with hy | hy
          · have h1 := HALL.out y hy
            have h8 := hkeep (h1.1.belowH hb2') h1.2.1
            exact ⟨h8.1, h8.2, h1.2.2⟩
          · obtain rfl : y = ⟨x.node, ⟨x.v.s, A2, n2, c2'⟩⟩ := by simpa using hy
            have h8 := hkeep hown2.srd (off_made hown hown2 (Nat.le_refl _))
            exact ⟨h8.1, h8.2, fresh_own hown2 hbs⟩
      case measure => simp [intOf]; omega
    · have he : l.take k = l := List.take_of_length_le (by have := HL.out; omega)
      have hO := HO.out
      rw [he] at hO
      have HO2 := Lib.hid hO
      clear hO he
      go_wp2
      go_ret
      exact ⟨⟨O, A1, k, c1⟩, rfl, HO2.out, ⟨hown, HALL.out⟩, hbel⟩
end Go.Proofs.Ytkabkpeamggnnaa

namespace Go.Proofs.Ytkabkpeamggnnaa
set_option linter.unusedVariables false
set_option linter.unusedSimpArgs false
open Go.RowKit

theorem vget_at {l : List Nv} {i : Nat} {x : Nv} {k : Int} (h : l[i]? = some x) (hk : x.node = k) (hno : ∀ y ∈ l.take i, y.node ≠ k) : V.get (l.map Nv.nm) k = some x.v.s := by
  induction l generalizing i with
  | nil => simp at h
  | cons y r ih =>
    rw [List.map_cons, V.get_cons]
    cases i with
    | zero =>
      obtain rfl : y = x := by simpa using h
      rw [if_pos (show (Nv.nm y).node = k from hk)]; rfl
    | succ i =>
      have h1 : y.node ≠ k := hno y (by rw [List.take_succ_cons]; exact List.mem_cons_self ..)
      rw [if_neg (show ¬ (Nv.nm y).node = k from h1)]
      exact ih (by simpa using h) (fun z hz => hno z (by rw [List.take_succ_cons]; exact List.mem_cons_of_mem _ hz))
theorem vget_none {l : List Nv} {k : Int} (hno : ∀ y ∈ l, y.node ≠ k) : V.get (l.map Nv.nm) k = none := by
  induction l with
  | nil => rfl
  | cons y r ih =>
    rw [List.map_cons, V.get_cons, if_neg (show ¬ (Nv.nm y).node = k from hno y (List.mem_cons_self ..))]
    exact ih fun z hz => hno z (List.mem_cons_of_mem _ hz)
/-- a state, and whether it is there -/
def MadeG (W : World) (r : Option St) (e : Ending) (w' : World) : Prop :=
  ∃ v : Sv, e = .returned (.tuple #[sv v, .bool r.isSome]) ∧ v.s = r.getD ⟨0, 0, []⟩ ∧ SRd w' v ∧ Below W.heap.size W w'
/-- .. and its table lies in a block of its own -/
def MadeGF (W : World) (r : Option St) (e : Ending) (w' : World) : Prop :=
  ∃ v : Sv, e = .returned (.tuple #[sv v, .bool r.isSome]) ∧ v.s = r.getD ⟨0, 0, []⟩ ∧ (SRd w' v ∧ Fresh W.heap.size v) ∧ Below W.heap.size W w'

set_option maxHeartbeats 2000000 in
set_option maxRecDepth 20000 in
theorem rvgetF_any (U : Vw) (node : Int) (w : World) (h : VRd w U) (hn : U.n ≤ 1000) (hf : VFit U) :
    Calls Try.prog 28 #[vval U, .int .i64 node] w (MadeGF w (V.get U.view node)) := by
  obtain ⟨l, A, n, c⟩ := U
  have hl := h.len
  simp only at hn hl hf
  have HL := Lib.hid hl
  have HF := Lib.hid hf
  clear hl hf
  simp only [vval]
  have Z := Box.new w #[.int .i64 0, .int .i64 0, .slice none 0 0] 40
  have b1 : Below w.heap.size w (w.alloc (.cells #[.int .i64 0, .int .i64 0, .slice none 0 0] 40)) := (Below.refl _ _).alloc (Nat.le_refl _) _
  have h1 := h.allocH (.cells #[.int .i64 0, .int .i64 0, .slice none 0 0] 40)
  have hs1 : w.heap.size < (w.alloc (.cells #[.int .i64 0, .int .i64 0, .slice none 0 0] 40)).heap.size := by simp
  have hat : ∀ k, k < n → _ := fun k hk => h.at hk
  have HAT := Lib.hid hat
  clear h hat
  go_enter Try.func28, Try.ntmps28
  go_wp2_with fail
  generalize w.alloc (.cells #[.int .i64 0, .int .i64 0, .slice none 0 0] 40) = w1 at *
  have z0 := Z.at 0 rfl
  have z1 := Z.at 1 rfl
  have z2 := Z.at 2 rfl
  have zf := Z.cold
  go_loop [6] (fun i => ∃ k : Nat, k ≤ n ∧ i = .int .i64 k ∧ ∀ y ∈ l.take k, y.node ≠ node) (fun i => n - (intOf i).toNat)
  case atStart => exact ⟨0, by omega, rfl, by simp⟩
  case round =>
    obtain ⟨k, hk, rfl, hno⟩ := hrel
    have HN := Lib.hid hno
    clear hno
    by_cases hlt : k < n
    · obtain ⟨b, o, x, e1, hb, hx, hsr, c0, c1', c2, c3⟩ := h1.at hlt
      simp only at e1 hx
      subst e1
      have hk0 : (0 : Int) ≤ (k : Int) := by omega
      have hfx := HF.out x (List.mem_of_getElem? hx)
      have HX := Lib.hid hx
      clear hx
      by_cases he : x.node = node
      · have hg := vget_at HX.out he HN.out
        have HG := Lib.hid hg
        have t1 : (x.node == node) = true := beq_iff_eq.2 he
        clear hg he
        go_wp2_with fail
        refine (rscopy_any x.v _ hsr (by omega)).mono ?_
        rintro e w2 ⟨⟨s2, A2, n2, c2'⟩, rfl, hs2, hown, hb2⟩
        simp only at hs2
        subst hs2
        have Z2 := Z.below hb2 hs1
        have y0 := Z2.at 0 rfl
        have y1 := Z2.at 1 rfl
        have y2 := Z2.at 2 rfl
        have yf := Z2.cold
        have yz := Z2.lt
        have hb3 := b1.trans (hb2.mono b1.size)
        have hown' : w2.ownsRow w1.heap.size 58 3 (.slice A2 n2 c2') n2 (EC x.v.s.apps) := hown
        clear hb2 z0 z1 z2 zf c0 c1' c2 c3 hown
        simp only [sv]
        go_wp2
        refine bodyPost_ret (v := .tuple #[sv ⟨x.v.s, A2, n2, c2'⟩, .bool true]) (by simp [results, Try.results28, go_sem, y0, y1, y2, yz, sv]; try rfl) rfl ?_
        refine ⟨⟨x.v.s, A2, n2, c2'⟩, ?_, ?_, ?_, ?_⟩
        · rw [show V.get (Vw.view ⟨l, some ⟨b, o, none⟩, n, c⟩) node = some x.v.s from HG.out]; rfl
        · rw [show V.get (Vw.view ⟨l, some ⟨b, o, none⟩, n, c⟩) node = some x.v.s from HG.out]; rfl
        · refine ⟨?_, fresh_own (v := ⟨x.v.s, A2, n2, c2'⟩) hown' (by omega)⟩
          refine Rd.of_own (base := w1.heap.size) (e := 58) (c := c2') ?_
          show World.ownsRow _ _ _ 3 (.slice A2 n2 c2') n2 (EC x.v.s.apps)
          repeat (first | (with_reducible exact hown') | (with_reducible refine own_set ?_ (by omega) _))
        · repeat (first | (with_reducible exact hb3) | (with_reducible refine below_set ?_ (by omega) _))
      · have t1 : (x.node == node) = false := beq_eq_false_iff_ne.2 he
        have HE := Lib.hid he
        clear he
        go_wp2
        go_round
        case rel =>
          refine ⟨k + 1, by omega, by go_num, fun y hy => ?_⟩
          rw [take_more HX.out] at hy
          rcases List.mem_append.1 hy with hy | hy
          · exact HN.out y hy
          · obtain rfl : y = x := by simpa using hy
            exact HE.out
        case measure => simp [intOf]; omega
    · have hg : V.get (l.map Nv.nm) node = none := vget_none (by have := HN.out; rwa [List.take_of_length_le (by have := HL.out; omega)] at this)
      have HG := Lib.hid hg
      have zz := Z.lt
      clear hg
      go_wp2
      refine bodyPost_ret (v := .tuple #[sv ⟨⟨0, 0, []⟩, none, 0, 0⟩, .bool false]) (by simp [results, Try.results28, go_sem, z0, z1, z2, zz, sv]; try rfl) rfl ?_
      refine ⟨⟨⟨0, 0, []⟩, none, 0, 0⟩, ?_, ?_, ⟨Rd.zero _ _ _ _, fresh_zero _ _ _ _⟩, ?_⟩
      · rw [show V.get (Vw.view ⟨l, A, n, c⟩) node = none from HG.out]; rfl
      · rw [show V.get (Vw.view ⟨l, A, n, c⟩) node = none from HG.out]; rfl
      · repeat (first | (with_reducible exact b1) | (with_reducible refine below_set ?_ (by omega) _))

theorem rvget_any (U : Vw) (node : Int) (w : World) (h : VRd w U) (hn : U.n ≤ 1000) (hf : VFit U) :
    Calls Try.prog 28 #[vval U, .int .i64 node] w (MadeG w (V.get U.view node)) :=
  (rvgetF_any U node w h hn hf).mono fun e w' ⟨v, h1, h2, h3, h4⟩ => ⟨v, h1, h2, h3.1, h4⟩

def off (node : Int) (l : List Nv) : List Nv := l.filter fun x => !(x.node == node)
theorem off_view (node : Int) (l : List Nv) : (off node l).map Nv.nm = V.without (l.map Nv.nm) node := by
  unfold off V.without
  rw [List.filter_map]
  rfl
theorem off_more {node : Int} {l : List Nv} {k : Nat} {x : Nv} (h : l[k]? = some x) : off node (l.take (k + 1)) = if x.node = node then off node (l.take k) else off node (l.take k) ++ [x] := by
  unfold off
  rw [take_more h, List.filter_append]
  by_cases hx : x.node = node <;> simp [hx]

set_option maxHeartbeats 2000000 in
set_option maxRecDepth 20000 in
theorem rvwithout_any (U : Vw) (node : Int) (w : World) (h : VRd w U) (hn : U.n ≤ 1000) (hf : VFit U) :
    Calls Try.prog 55 #[vval U, .int .i64 node] w (MadeV w (V.without U.view node)) := by
  obtain ⟨l, A, n, c⟩ := U
  have hl := h.len
  simp only at hn hl hf
  have HL := Lib.hid hl
  have HF := Lib.hid hf
  clear hl hf
  simp only [vval]
  go_enter Try.func55, Try.ntmps55
  go_wp2
  go_loopw [5, 6] (fun s i wr => ∃ (k m : Nat) (A1 : Option Addr) (c1 : Nat), k ≤ n ∧ m ≤ k ∧ i = .int .i64 k ∧ s = .slice A1 m c1 ∧ m = (off node (l.take k)).length ∧
    wr.ownsRow w.heap.size 49 4 (.slice A1 m c1) m (FC ncl (off node (l.take k))) ∧ Below w.heap.size w wr) (fun _ i _ => n - (intOf i).toNat)
  case atStart => exact ⟨0, 0, none, 0, by omega, by omega, rfl, rfl, rfl, World.ownsRow_nil _ _ _ _, Below.refl _ _⟩
  case round =>
    obtain ⟨k, m, A1, c1, hk, hmk, rfl, rfl, hm, hown, hbel⟩ := hrel
    have HM := Lib.hid hm
    have hbs := hbel.size
    clear hm
    by_cases hlt : k < n
    · obtain ⟨b, o, x, e1, hb, hx, hsr, c0, c1', c2, c3⟩ := (h.belowH hbel).at hlt
      simp only at e1 hx
      subst e1
      have hk0 : (0 : Int) ≤ (k : Int) := by omega
      have hmore := off_more (node := node) hx
      have HX := Lib.hid hx
      clear hx hsr
      by_cases he : x.node = node
      · have t1 : (x.node != node) = false := bne_eq_false_iff_eq.2 he
        rw [if_pos he] at hmore
        have HMORE := Lib.hid hmore
        clear hmore he
        go_wp2
        go_roundw
        case rel => exact ⟨k + 1, m, A1, c1, by omega, by omega, by go_num, rfl, by rw [HMORE.out]; exact HM.out, by rw [HMORE.out]; exact hown, hbel⟩
        case measure => simp [intOf]; omega
      · have t1 : (x.node != node) = true := bne_iff_ne.2 he
        rw [if_neg he] at hmore
        have HMORE := Lib.hid hmore
        clear hmore he
        go_wp2_with (refine pushF_law (f := ncl) (y := x) nmT ncl_len ncl_one rfl (.tmp 20) (.tmp 25) rfl w.heap.size rfl rfl rfl hown (by omega) (by omega) hbs ?_; rintro A2 c2' w2 hown2 hb2 _)
        go_roundw
        case rel => exact ⟨k + 1, m + 1, A2, c2', by omega, by omega, by go_num, rfl, by rw [HMORE.out, List.length_append, ← HM.out]; rfl, by rw [HMORE.out]; exact hown2, hbel.trans hb2⟩
        case measure => simp [intOf]; omega
    · have he : l.take k = l := List.take_of_length_le (by have := HL.out; omega)
      rw [he] at hown
      have hvr : VRd wr ⟨off node l, A1, m, c1⟩ := ⟨Rd.of_own hown, fun x hx => ((h.belowH hbel).2 x (List.mem_filter.1 hx).1)⟩
      have hvf : VFit ⟨off node l, A1, m, c1⟩ := fun x hx => HF.out x (List.mem_filter.1 hx).1
      clear he hown
      go_wp2_with fail
      refine (rvcopy_any ⟨off node l, A1, m, c1⟩ wr hvr (by show m ≤ _; omega) hvf).mono ?_
      rintro e w2 ⟨V2, rfl, hv, hown2, hb2⟩
      have HV : Hid (V2.view = V.without (Vw.view ⟨l, A, n, c⟩) node) := Lib.hid (hv.trans (off_view node l))
      clear hv
      go_wp2
      go_ret
      exact ⟨V2, rfl, HV.out, hown2.mono hbs, hbel.trans (hb2.mono hbs)⟩
theorem vfit_apps {w : World} {U : Vw} (h : VRd w U) (hf : VFit U) {x : Nm} (hx : x ∈ U.view) : x.st.apps.length ≤ 4000 := by
  obtain ⟨y, hy, rfl⟩ := List.mem_map.1 hx
  have h1 := (h.2 y hy).len
  have h2 := hf y hy
  show y.v.s.apps.length ≤ _
  omega
theorem vget_short {w : World} {U : Vw} (h : VRd w U) (hf : VFit U) {k : Int} (o : Option St) (ho : V.get U.view k = o) : (o.getD ⟨0, 0, []⟩).apps.length ≤ 4000 := by
  rcases o with _ | s
  · show (0 : Nat) ≤ _; omega
  · exact vfit_apps h hf (V.get_mem ho)
end Go.Proofs.Ytkabkpeamggnnaa

namespace Go.Proofs.Ytkabkpeamggnnaa
set_option linter.unusedVariables false
set_option linter.unusedSimpArgs false
open Go.RowKit

namespace V
theorem put_lt {l : List Nm} {k : Int} {s : St} (h : ∀ y ∈ l, y.node < k) : put l k s = l ++ [⟨k, s⟩] := by
  induction l with
  | nil => rfl
  | cons z r ih =>
    simp only [put]
    rw [if_pos (h z (by simp)), ih (fun y hy => h y (by simp [hy]))]; rfl
theorem put_at {l : List Nm} {k : Int} {s : St} {z : Nm} (h : ∀ y ∈ l, y.node < k) (hz : k < z.node) : put (l ++ [z]) k s = l ++ [⟨k, s⟩] ++ [z] := by
  induction l with
  | nil =>
    simp only [List.nil_append, put]
    rw [if_neg (by omega), if_neg (by omega)]; rfl
  | cons y r ih =>
    simp only [List.cons_append, put]
    rw [if_pos (h y (by simp)), ih (fun w hw => h w (by simp [hw]))]
theorem put_snoc {l : List Nm} {k : Int} {s : St} {z : Nm} (h : ∃ y ∈ l, k < y.node) : put (l ++ [z]) k s = put l k s ++ [z] := by
  induction l with
  | nil => obtain ⟨y, hy, _⟩ := h; cases hy
  | cons w r ih =>
    simp only [List.cons_append, put]
    split
    · rename_i hlt
      rw [List.cons_append, ih]
      obtain ⟨y, hy, h2⟩ := h
      rcases List.mem_cons.1 hy with rfl | hy
      · omega
      · exact ⟨y, hy, h2⟩
    · split <;> rfl
theorem put_without_put {l : List Nm} (h : rising l) (k : Int) (s : St) : put (without l k) k s = put l k s :=
  rising_ext (put_rising (without_rising h k) k s) (put_rising h k s) fun j => by
    rw [get_put (without_rising h k), get_put h, get_without]
    by_cases hk : k = j
    · rw [if_pos hk, if_pos hk]
    · rw [if_neg hk, if_neg hk, if_neg hk]
end V
/-- how far Put has come over what is left without the endpoint -/
def VPutting (l : List Nm) (node : Int) (s : St) (k : Nat) (p : Bool) (O : List Nm) : Prop :=
  (p = false ∧ O = l.take k ∧ ∀ y ∈ l.take k, y.node < node) ∨ (p = true ∧ O = V.put (l.take k) node s ∧ ∃ y ∈ l.take k, node < y.node)
section
variable {l O : List Nm} {node : Int} {s : St} {k : Nat} {y : Nm}
theorem VPutting.start (l : List Nm) (node : Int) (s : St) : VPutting l node s 0 false [] := Or.inl ⟨rfl, rfl, by simp⟩
theorem VPutting.lower (h : VPutting l node s k false O) (hy : l[k]? = some y) (hlt : y.node < node) : VPutting l node s (k + 1) false (O ++ [y]) := by
  rcases h with ⟨_, rfl, ha⟩ | ⟨e, _⟩
  · refine Or.inl ⟨rfl, (take_more hy).symm, fun z hz => ?_⟩
    rw [take_more hy] at hz
    rcases List.mem_append.1 hz with hz | hz
    · exact ha z hz
    · obtain rfl : z = y := by simpa using hz
      exact hlt
  · cases e
theorem VPutting.upper (h : VPutting l node s k false O) (hy : l[k]? = some y) (hlt : node < y.node) : VPutting l node s (k + 1) true (O ++ [⟨node, s⟩] ++ [y]) := by
  rcases h with ⟨_, rfl, ha⟩ | ⟨e, _⟩
  · refine Or.inr ⟨rfl, ?_, y, by rw [take_more hy]; simp, hlt⟩
    rw [take_more hy, V.put_at ha hlt]
  · cases e
theorem VPutting.more (h : VPutting l node s k true O) (hy : l[k]? = some y) : VPutting l node s (k + 1) true (O ++ [y]) := by
  rcases h with ⟨e, _⟩ | ⟨_, rfl, z, hz, hzx⟩
  · cases e
  · refine Or.inr ⟨rfl, ?_, z, by rw [take_more hy]; simp [hz], hzx⟩
    rw [take_more hy, V.put_snoc ⟨z, hz, hzx⟩]
theorem VPutting.len (h : VPutting l node s k false O) : O.length ≤ k := by
  rcases h with ⟨_, rfl, _⟩ | ⟨e, _⟩
  · rw [List.length_take]; omega
  · cases e
theorem VPutting.endF (h : VPutting l node s k false O) (hk : l.length ≤ k) : O ++ [⟨node, s⟩] = V.put l node s := by
  rcases h with ⟨_, rfl, ha⟩ | ⟨e, _⟩
  · rw [List.take_of_length_le hk] at *
    rw [V.put_lt ha]
  · cases e
theorem VPutting.endT (h : VPutting l node s k true O) (hk : l.length ≤ k) : O = V.put l node s := by
  rcases h with ⟨e, _⟩ | ⟨_, rfl, _⟩
  · cases e
  · rw [List.take_of_length_le hk]
end
theorem nm_at {l : List Nv} {k : Nat} {x : Nv} (h : l[k]? = some x) : (l.map Nv.nm)[k]? = some x.nm := by rw [List.getElem?_map, h]; rfl

set_option maxHeartbeats 4000000 in
set_option maxRecDepth 20000 in
theorem rvput_any (U : Vw) (node : Int) (v : Sv) (w : World) (h : VRd w U) (hn : U.n ≤ 900) (hf : VFit U) (hv : SRd w v) (hvn : v.n ≤ 4000) (hrise : V.rising U.view) :
    Calls Try.prog 33 #[vval U, .int .i64 node, sv v] w (MadeV w (V.put U.view node v.s)) := by
  obtain ⟨⟨g, t, tl⟩, At, nt, ct⟩ := v
  have HR := Lib.hid hrise
  have hvl := h.viewlen
  have HVL := Lib.hid hvl
  clear hrise hvl
  simp only at hvn
  simp only [sv]
  have X := Box.new w #[.int .i64 g, .int .i64 t, .slice At nt ct] 40
  have b1 : Below w.heap.size w (w.alloc (.cells #[.int .i64 g, .int .i64 t, .slice At nt ct] 40)) := (Below.refl _ _).alloc (Nat.le_refl _) _
  have h1 := h.allocH (.cells #[.int .i64 g, .int .i64 t, .slice At nt ct] 40)
  have hv1 := hv.allocH (.cells #[.int .i64 g, .int .i64 t, .slice At nt ct] 40)
  have hs1 : w.heap.size < (w.alloc (.cells #[.int .i64 g, .int .i64 t, .slice At nt ct] 40)).heap.size := by simp
  clear h hv
  go_enter Try.func33, Try.ntmps33
  go_wp2_with fail
  generalize w.alloc (.cells #[.int .i64 g, .int .i64 t, .slice At nt ct] 40) = w0 at *
  refine (rvwithout_any U node w0 h1 (by omega) hf).mono ?_
  rintro e w1 ⟨⟨r, Ar, nr, cr⟩, rfl, hrv, hro, hb1⟩
  have X1 := X.below hb1 hs1
  have hv2 := hv1.belowH hb1
  have b2 := b1.trans (hb1.mono b1.size)
  have hr := hro.vrd
  have HFR : Hid (∀ x ∈ r, Fresh w.heap.size x.v) := Lib.hid fun x hx => ((hro.2 x hx).2.2).mono b1.size
  have hs2 : w.heap.size < w1.heap.size := X1.lt
  have hrl := hr.len
  simp only at hrl
  have HRV : Hid (r.map Nv.nm = V.without U.view node) := Lib.hid hrv
  have hnr : nr ≤ 900 := by
    have h2 := congrArg List.length hrv
    have h3 : (V.without U.view node).length ≤ U.view.length := List.length_filter_le _ _
    have h4 := HVL.out
    rw [show Vw.view ⟨r, Ar, nr, cr⟩ = r.map Nv.nm from rfl, List.length_map] at h2
    omega
  have HRL := Lib.hid hrl
  have hoffr : ∀ x ∈ r, x.node ≠ node := fun x hx he => by
    have h2 : x.nm ∈ V.without U.view node := by rw [← hrv]; exact List.mem_map.2 ⟨x, hx, rfl⟩
    have h3 := (List.mem_filter.1 h2).2
    have h4 : x.nm.node = node := he
    simp [h4] at h3
  have HOFFR := Lib.hid hoffr
  clear hb1 hro hrv X b1 h1 hv1 hrl hoffr
  simp only [vval]
  go_wp2
  go_loopw [7, 8, 10] (fun s p i wr => ∃ (k m : Nat) (A1 : Option Addr) (c1 : Nat) (pb : Bool) (O : List Nv), k ≤ nr ∧ i = .int .i64 k ∧ p = .bool pb ∧ m ≤ k + 1 ∧ s = .slice A1 m c1 ∧ VPutting (r.map Nv.nm) node ⟨g, t, tl⟩ k pb (O.map Nv.nm) ∧ m = O.length ∧
      wr.ownsRow w1.heap.size 49 4 (.slice A1 m c1) m (FC ncl O) ∧ (∀ x ∈ O, SRd wr x.v ∧ Off (.slice A1 m c1) x.v.A x.v.n ∧ Fresh w.heap.size x.v) ∧ Below w1.heap.size w1 wr) (fun _ _ i _ => nr - (intOf i).toNat)
  case atStart => exact ⟨0, 0, none, 0, false, [], by omega, rfl, rfl, by omega, rfl, VPutting.start _ _ _, rfl, World.ownsRow_nil _ _ _ _, by simp, Below.refl _ _⟩
  case round =>
    obtain ⟨k, m, A1, c1, pb, O, hk, rfl, rfl, hmk, rfl, hP, hm, hown, hall, hbel⟩ := hrel
    have HP := Lib.hid hP
    have HM := Lib.hid hm
    have HALL := Lib.hid hall
    have hbs := hbel.size
    have X2 := X1.below hbel hs2
    have y0 := X2.at 0 rfl
    have y1 := X2.at 1 rfl
    have y2 := X2.at 2 rfl
    have hvr := hv2.belowH hbel
    clear hP hm hall
    by_cases hlt : k < nr
    · obtain ⟨b, o, x, e1, hb, hx, hsr, d0, d1, d2, d3⟩ := hr.at hlt
      simp only at e1 hx
      subst e1
      have hoffx := off_below hsr hown (Nat.le_refl _)
      have hsx := hsr.belowH hbel
      replace d0 := (hbel.cell (p := ⟨b, o + k * 4, none⟩) hb).trans d0
      replace d1 := (hbel.cell (p := ⟨b, o + k * 4 + 1, none⟩) hb).trans d1
      replace d2 := (hbel.cell (p := ⟨b, o + k * 4 + 2, none⟩) hb).trans d2
      replace d3 := (hbel.cell (p := ⟨b, o + k * 4 + 3, none⟩) hb).trans d3
      have hk0 : (0 : Int) ≤ (k : Int) := by omega
      have hne := HOFFR.out x (List.mem_of_getElem? hx)
      have HX : Hid ((r.map Nv.nm)[k]? = some x.nm) := Lib.hid (nm_at hx)
      have hfrx := HFR.out x (List.mem_of_getElem? hx)
      clear hx hsr
      cases pb
      · by_cases hgt : node < x.node
        · have t1 : decide (node < x.node) = true := decide_eq_true hgt
          have HGT := Lib.hid hgt
          have hmk2 : m ≤ k := by have := HP.out.len; rw [List.length_map] at this; have := HM.out; omega
          clear hgt hne
          go_wp2_with fail
          refine (rscopy_any ⟨⟨g, t, tl⟩, At, nt, ct⟩ _ hvr (by show nt ≤ _; omega)).mono ?_
          rintro e w2 ⟨⟨s2, A2, n2, c2⟩, rfl, hs2e, hown2, hb2⟩
          simp only at hs2e
          subst hs2e
          have hown3 := own_below hown hb2
          have hbel2 := hbel.trans (hb2.mono hbs)
          have hoff2 := off_made hown hown2 (Nat.le_refl _)
          have hbs2 := hbel2.size
          replace d0 := (hb2.cell (p := ⟨b, o + k * 4, none⟩) (by show b < _; omega)).trans d0
          replace d1 := (hb2.cell (p := ⟨b, o + k * 4 + 1, none⟩) (by show b < _; omega)).trans d1
          replace d2 := (hb2.cell (p := ⟨b, o + k * 4 + 2, none⟩) (by show b < _; omega)).trans d2
          replace d3 := (hb2.cell (p := ⟨b, o + k * 4 + 3, none⟩) (by show b < _; omega)).trans d3
          have hsx2 := hsx.belowH hb2
          clear y0 y1 y2
          simp only [sv]
          go_wp2_with (first | (refine pushF_law (f := ncl) (y := ⟨node, ⟨⟨g, t, tl⟩, A2, n2, c2⟩⟩) nmT ncl_len ncl_one rfl (.tmp 31) (.tmp 36) rfl w1.heap.size rfl rfl rfl hown3 (by omega) (by omega) hbs2 ?_; rintro A3 c3 w3 hown4 hb3 hkeep; replace d0 := (hb3.cell (p := ⟨b, o + k * 4, none⟩) hb).trans d0; replace d1 := (hb3.cell (p := ⟨b, o + k * 4 + 1, none⟩) hb).trans d1; replace d2 := (hb3.cell (p := ⟨b, o + k * 4 + 2, none⟩) hb).trans d2; replace d3 := (hb3.cell (p := ⟨b, o + k * 4 + 3, none⟩) hb).trans d3; have hbel3 := hbel2.trans hb3; have hbs3 := hbel3.size) | (refine pushF_law (f := ncl) (y := x) nmT ncl_len ncl_one rfl (.tmp 38) (.tmp 43) rfl w1.heap.size rfl rfl rfl hown4 (by omega) (by omega) hbs3 ?_; rintro A4 c4 w4 hown5 hb4 hkeep2))
          go_roundw
          case rel =>
            refine ⟨k + 1, m + 1 + 1, A4, c4, true, O ++ [⟨node, ⟨⟨g, t, tl⟩, A2, n2, c2⟩⟩] ++ [x], by omega, by go_num, rfl, by omega, rfl, ?_, ?_, hown5, ?_, hbel3.trans hb4⟩
            · have h9 := HP.out.upper HX.out HGT.out
              rw [List.map_append, List.map_append]
              exact h9
            · rw [List.length_append, List.length_append, HM.out]; rfl
            · intro y hy
              rcases List.mem_append.1 hy with hy | hy
              · rcases List.mem_append.1 hy with hy | hy
                · have h9 := HALL.out y hy
                  have h8 := hkeep (h9.1.belowH hb2) h9.2.1
                  have h7 := hkeep2 h8.1 h8.2
                  exact ⟨h7.1, h7.2, h9.2.2⟩
                · obtain rfl : y = ⟨node, ⟨⟨g, t, tl⟩, A2, n2, c2⟩⟩ := by simpa using hy
                  have h8 := hkeep hown2.srd hoff2
                  have h7 := hkeep2 h8.1 h8.2
                  exact ⟨h7.1, h7.2, fresh_own hown2 (by omega)⟩
              · obtain rfl : y = x := by simpa using hy
                have h8 := hkeep hsx2 hoffx
                have h7 := hkeep2 h8.1 h8.2
                exact ⟨h7.1, h7.2, hfrx⟩
          case measure => simp [intOf]; omega
        · have t1 : decide (node < x.node) = false := decide_eq_false hgt
          have hlow : x.node < node := by omega
          have HLOW := Lib.hid hlow
          clear hgt hne hlow y0 y1 y2
          go_wp2_with (refine pushF_law (f := ncl) (y := x) nmT ncl_len ncl_one rfl (.tmp 38) (.tmp 43) rfl w1.heap.size rfl rfl rfl hown (by omega) (by omega) hbs ?_; rintro A4 c4 w4 hown5 hb4 hkeep2)
          go_roundw
          case rel =>
            refine ⟨k + 1, m + 1, A4, c4, false, O ++ [x], by omega, by go_num, rfl, by omega, rfl, ?_, ?_, hown5, ?_, hbel.trans hb4⟩
            · have h9 := HP.out.lower HX.out HLOW.out
              rw [List.map_append]
              exact h9
            · rw [List.length_append, HM.out]; rfl
            · intro y hy
              rcases List.mem_append.1 hy with hy | hy
              · have h9 := HALL.out y hy
                have h7 := hkeep2 h9.1 h9.2.1
                exact ⟨h7.1, h7.2, h9.2.2⟩
              · obtain rfl : y = x := by simpa using hy
                have h7 := hkeep2 hsx hoffx
                exact ⟨h7.1, h7.2, hfrx⟩
          case measure => simp [intOf]; omega
      · clear hne y0 y1 y2
        go_wp2_with (refine pushF_law (f := ncl) (y := x) nmT ncl_len ncl_one rfl (.tmp 38) (.tmp 43) rfl w1.heap.size rfl rfl rfl hown (by omega) (by omega) hbs ?_; rintro A4 c4 w4 hown5 hb4 hkeep2)
        go_roundw
        case rel =>
          refine ⟨k + 1, m + 1, A4, c4, true, O ++ [x], by omega, by go_num, rfl, by omega, rfl, ?_, ?_, hown5, ?_, hbel.trans hb4⟩
          · have h9 := HP.out.more HX.out
            rw [List.map_append]
            exact h9
          · rw [List.length_append, HM.out]; rfl
          · intro y hy
            rcases List.mem_append.1 hy with hy | hy
            · have h9 := HALL.out y hy
              have h7 := hkeep2 h9.1 h9.2.1
              exact ⟨h7.1, h7.2, h9.2.2⟩
            · obtain rfl : y = x := by simpa using hy
              have h7 := hkeep2 hsx hoffx
              exact ⟨h7.1, h7.2, hfrx⟩
        case measure => simp [intOf]; omega
    · have hkn : (r.map Nv.nm).length ≤ k := by rw [List.length_map]; have := HRL.out; omega
      have HKN := Lib.hid hkn
      clear hkn
      have HPW := Lib.hid (V.put_without_put HR.out node ⟨g, t, tl⟩)
      cases pb
      · go_wp2_with fail
        refine (rscopy_any ⟨⟨g, t, tl⟩, At, nt, ct⟩ _ hvr (by show nt ≤ _; omega)).mono ?_
        rintro e w2 ⟨⟨s2, A2, n2, c2⟩, rfl, hs2e, hown2, hb2⟩
        simp only at hs2e
        subst hs2e
        have hown3 := own_below hown hb2
        have hbel2 := hbel.trans (hb2.mono hbs)
        have hoff2 := off_made hown hown2 (Nat.le_refl _)
        have hbs2 := hbel2.size
        clear y0 y1 y2
        simp only [sv]
        go_wp2_with (refine pushF_law (f := ncl) (y := ⟨node, ⟨⟨g, t, tl⟩, A2, n2, c2⟩⟩) nmT ncl_len ncl_one rfl (.tmp 47) (.tmp 52) rfl w1.heap.size rfl rfl rfl hown3 (by omega) (by omega) hbs2 ?_; rintro A3 c3 w3 hown4 hb3 hkeep)
        go_ret
        refine ⟨⟨O ++ [⟨node, ⟨⟨g, t, tl⟩, A2, n2, c2⟩⟩], A3, m + 1, c3⟩, rfl, ?_, ⟨own_mono hown4 (by omega), ?_⟩, b2.trans ((hbel2.trans hb3).mono (by omega))⟩
        · have h9 := HP.out.endF HKN.out
          rw [HRV.out, HPW.out] at h9
          rw [← h9]
          show (O ++ [_]).map Nv.nm = _
          rw [List.map_append]; rfl
        · intro y hy
          rcases List.mem_append.1 hy with hy | hy
          · have h9 := HALL.out y hy
            have h7 := hkeep (h9.1.belowH hb2) h9.2.1
            exact ⟨h7.1, h7.2, h9.2.2⟩
          · obtain rfl : y = ⟨node, ⟨⟨g, t, tl⟩, A2, n2, c2⟩⟩ := by simpa using hy
            have h7 := hkeep hown2.srd hoff2
            exact ⟨h7.1, h7.2, fresh_own hown2 (by omega)⟩
      · go_wp2
        go_ret
        refine ⟨⟨O, A1, m, c1⟩, rfl, ?_, ⟨own_mono hown (by omega), HALL.out⟩, b2.trans (hbel.mono (by omega))⟩
        have h9 := HP.out.endT HKN.out
        rw [HRV.out, HPW.out] at h9
        exact h9
end Go.Proofs.Ytkabkpeamggnnaa

