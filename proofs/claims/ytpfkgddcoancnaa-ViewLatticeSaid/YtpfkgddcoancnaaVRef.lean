/- The reference's Copy on views. -/
import Derived.Test.YtpfkgddcoancnaaTRef3
import Derived.Test.YtpfkgddcoancnaaVMem
namespace Go.Proofs.Ytpfkgddcoancnaa
set_option linter.unusedVariables false
set_option linter.unusedSimpArgs false
open Go.RowKit

theorem nmT : SlT Try.prog 22 45 (.agg #[.int .i64 0, .int .i64 0, .int .i64 0, .slice none 0 0]) 4 48 := ⟨Try.underlying22, by kernel_rfl, rfl, by omega⟩
/-- its row is the call's own, and what its endpoints' tables are lies apart from it -/
def VOwn (base : Nat) (w : World) (V : Vw) : Prop := w.ownsRow base 45 4 (vval V) V.n (FC ncl V.l) ∧ ∀ x ∈ V.l, SRd w x.v ∧ Off (vval V) x.v.A x.v.n
theorem VOwn.vrd {base : Nat} {w : World} {V : Vw} (h : VOwn base w V) : VRd w V := ⟨Rd.of_own h.1, fun x hx => (h.2 x hx).1⟩
theorem VOwn.below {base : Nat} {w w' : World} {V : Vw} (h : VOwn base w V) (hb : Below w.heap.size w w') : VOwn base w' V := ⟨own_below h.1 hb, fun x hx => ⟨(h.2 x hx).1.belowH hb, (h.2 x hx).2⟩⟩
/-- a view that was made -/
def MadeV (W : World) (L : List Nm) (e : Ending) (w' : World) : Prop := ∃ V : Vw, e = .returned (vval V) ∧ V.view = L ∧ VOwn W.heap.size w' V ∧ Below W.heap.size W w'
/-- its tables are short enough to be reckoned with -/
def VFit (V : Vw) : Prop := ∀ x ∈ V.l, x.v.n ≤ 4000

theorem pushF_step {α : Type} {f : α → List Value} {k : Nat} {P : Program} {t e : TypeId} {z : Value} {bytes : Nat} {w : World} {ops : Array Oper} {o : Oper} {a : Act} {K : Act → World → Prop} {Q : Exit → Act → World → Prop} {E : Prop} (T : SlT P t e z k bytes) (hf : ∀ x, (f x).length = k) (h1 : ∀ x, ∀ u ∈ f x, u.oneCell' = true)
    (hgd : o.guard = none) (s x : Operand) (ho : o.op = .call { callee := .builtin .append, args := #[s, x], argTypes := #[t, t] })
    (base : Nat) {A : Option Addr} {m c : Nat} {O : List α} {y : α} {cs : Array Value} {ty : TypeId} (hcs : cs.toList = f y) (hs : a.eval s = .slice A m c) (hx : a.eval x = .slice (some ⟨w.heap.size, 0, none⟩) 1 1)
    (hown : w.ownsRow base e k (.slice A m c) m (FC f O)) (hb : (m + 1) * bytes ≤ 140737488355328) (hm : m + 1 ≤ 140737488355328) (hbase : base ≤ w.heap.size)
    (h : ∀ A' c' w', w'.ownsRow base e k (.slice A' (m + 1) c') (m + 1) (FC f (O ++ [y])) → Below base w w' → Keeps w w' (.slice A m c) (.slice A' (m + 1) c') → K (a.put o.dst (.slice A' (m + 1) c')) w') :
    if Region.wanted o (yielded ops a.tmps) = true then Oper.wp P o a (w.alloc (.cells cs ty)) K Q else E := by
  have hsz : cs.size = 1 * k := by rw [← Array.length_toList, hcs, hf]; omega
  refine step_app_law T hgd s x ho base hs (hown.alloc _) hx (Rd.lit w cs ty k 1 hsz) (by rw [hcs]; exact h1 y) hb hm (by simp; omega) fun A2 c2 w2 ap => ?_
  have hown2 := ap.own
  rw [hcs, show FC f O ++ f y = FC f (O ++ [y]) by rw [FC_append, FC_one]] at hown2
  refine h A2 c2 w2 hown2 (below_app ((Below.refl _ _).alloc hbase _) (hown.alloc _) ap.grown (Nat.le_refl _) (by simp; omega)) ?_
  intro size n A0 xs hr hoff
  have hr2 : Rd (w.alloc (.cells cs ty)) (w.alloc (.cells cs ty)).heap.size size A0 n xs := (hr.alloc (Nat.le_refl _) _).more (by simp)
  exact ⟨hr2.grownX ap.grown hoff, hoff.app hr2 ap.loc⟩

set_option maxHeartbeats 2000000 in
set_option maxRecDepth 20000 in
theorem rvcopy_any (V : Vw) (w : World) (h : VRd w V) (hn : V.n ≤ 1000) (hf : VFit V) :
    Calls Try.prog 25 #[vval V] w (MadeV w V.view) := by
  obtain ⟨l, A, n, c⟩ := V
  have hl := h.len
  simp only at hn hl hf
  have HL := Lib.hid hl
  have HF := Lib.hid hf
  clear hl hf
  simp only [vval]
  go_enter Try.func25, Try.ntmps25
  go_wp2
  go_loopw [3, 4] (fun s i wr => ∃ (k : Nat) (A1 : Option Addr) (c1 : Nat) (O : List Nv), k ≤ n ∧ i = .int .i64 k ∧ s = .slice A1 k c1 ∧ O.map Nv.nm = (l.take k).map Nv.nm ∧
      wr.ownsRow w.heap.size 45 4 (.slice A1 k c1) k (FC ncl O) ∧ (∀ x ∈ O, SRd wr x.v ∧ Off (.slice A1 k c1) x.v.A x.v.n) ∧ Below w.heap.size w wr) (fun _ i _ => n - (intOf i).toNat)
  case atStart => exact ⟨0, none, 0, [], by omega, rfl, rfl, rfl, World.ownsRow_nil _ _ _ _, by simp, Below.refl _ _⟩
  case round =>
    obtain ⟨k, A1, c1, O, hk, rfl, rfl, hO, hown, hall, hbel⟩ := hrel
    have HO := Lib.hid hO
    have HALL := Lib.hid hall
    have hbs := hbel.size
    clear hO hall
    by_cases hlt : k < n
    · obtain ⟨b, o, x, e1, hbw, hx, hsr0, c0, c1', c2, c3⟩ := h.at hlt
      simp only at e1 hx
      subst e1
      have hsr := hsr0.belowH hbel
      have hb : b < wr.heap.size := by omega
      replace c0 := (hbel.cell (p := ⟨b, o + k * 4, none⟩) hbw).trans c0
      replace c1' := (hbel.cell (p := ⟨b, o + k * 4 + 1, none⟩) hbw).trans c1'
      replace c2 := (hbel.cell (p := ⟨b, o + k * 4 + 2, none⟩) hbw).trans c2
      replace c3 := (hbel.cell (p := ⟨b, o + k * 4 + 3, none⟩) hbw).trans c3
      clear hsr0
      have hk0 : (0 : Int) ≤ (k : Int) := by omega
      have hfx := HF.out x (List.mem_of_getElem? hx)
      have HX := Lib.hid hx
      clear hx
      go_wp2
      refine wp_region_held_drew (S := (fun w' => w'.cell? ⟨b, o + k * 4, none⟩ = some (.int .i64 x.node) ∧ w'.cell? ⟨b, o + k * 4 + 1, none⟩ = some (.int .i64 x.v.s.gen) ∧ w'.cell? ⟨b, o + k * 4 + 2, none⟩ = some (.int .i64 x.v.s.beat) ∧ w'.cell? ⟨b, o + k * 4 + 3, none⟩ = some (.slice x.v.A x.v.n x.v.c))) (by kernel_rfl) (by exact ⟨c0, c1', c2, c3⟩) (fun hHeld0 => ?_)
      refine wpAnyH_take (i := 0) (oi := ⟨some 11, _, _, _, _, _⟩) (v := ?_) rfl (by kernel_rfl) (by kernel_rfl) (by kernel_rfl) (fun _ _ _ h => h) (Or.inl ⟨by rfl, ?_⟩) hHeld0 ?_
      rotate_left
      · (intro w' hSw; (try dsimp only at hSw); go_simp; all_goals (with_reducible rfl))
      try simp only [Act.put, List.setIfInBounds_toArray, List.set_cons_zero, List.set_cons_succ]
      refine wpAnyH_take (i := 1) (oi := ⟨some 12, _, _, _, _, _⟩) (v := ?_) rfl (by kernel_rfl) (by kernel_rfl) (by kernel_rfl) (fun _ _ _ h => h) (Or.inl ⟨by rfl, ?_⟩) hHeld0 ?_
      rotate_left
      · (intro w' hSw; (try dsimp only at hSw); go_simp; all_goals (with_reducible rfl))
      try simp only [Act.put, List.setIfInBounds_toArray, List.set_cons_zero, List.set_cons_succ]
      refine wpAnyH_take (i := 2) (oi := ⟨some 13, _, _, _, _, _⟩) (v := ?_) rfl (by kernel_rfl) (by kernel_rfl) (by kernel_rfl) (fun _ _ _ h => h) (Or.inl ⟨by rfl, ?_⟩) hHeld0 ?_
      rotate_left
      · (intro w' hSw; (try dsimp only at hSw); go_simp; all_goals (with_reducible rfl))
      try simp only [Act.put, List.setIfInBounds_toArray, List.set_cons_zero, List.set_cons_succ]
      refine wpAnyH_take (i := 3) (oi := ⟨some 14, _, _, _, _, _⟩) (v := ?_) rfl (by kernel_rfl) (by kernel_rfl) (by kernel_rfl) (fun _ _ _ h => h) (Or.inl ⟨by rfl, ?_⟩) hHeld0 ?_
      rotate_left
      · (intro w' hSw; (try dsimp only at hSw); go_simp; all_goals (with_reducible rfl))
      try simp only [Act.put, List.setIfInBounds_toArray, List.set_cons_zero, List.set_cons_succ]
      refine wpAnyH_take (i := 4) (oi := ⟨some 15, _, _, _, _, _⟩) (v := ?_) rfl (by kernel_rfl) (by kernel_rfl) (by kernel_rfl) (fun _ _ _ h => h) (Or.inl ⟨by rfl, ?_⟩) hHeld0 ?_
      rotate_left
      · (intro w' hSw; (try dsimp only at hSw); go_simp; all_goals (with_reducible rfl))
      try simp only [Act.put, List.setIfInBounds_toArray, List.set_cons_zero, List.set_cons_succ]
      refine wpAnyH_take (i := 5) (oi := ⟨some 16, _, _, _, _, _⟩) (v := ?_) rfl (by kernel_rfl) (by kernel_rfl) (by kernel_rfl) (fun _ _ _ h => h) (Or.inl ⟨by rfl, ?_⟩) hHeld0 ?_
      rotate_left
      · (intro w' hSw; (try dsimp only at hSw); go_simp; all_goals (with_reducible rfl))
      try simp only [Act.put, List.setIfInBounds_toArray, List.set_cons_zero, List.set_cons_succ]
      refine wpAnyH_take (i := 6) (oi := ⟨some 17, _, _, _, _, _⟩) (v := ?_) rfl (by kernel_rfl) (by kernel_rfl) (by kernel_rfl) (fun _ _ _ h => h) (Or.inl ⟨by rfl, ?_⟩) hHeld0 ?_
      rotate_left
      · (intro w' hSw; (try dsimp only at hSw); go_simp; all_goals (with_reducible rfl))
      try simp only [Act.put, List.setIfInBounds_toArray, List.set_cons_zero, List.set_cons_succ]
      refine wpAnyH_take (i := 7) (oi := ⟨some 18, _, _, _, _, _⟩) (v := ?_) rfl (by kernel_rfl) (by kernel_rfl) (by kernel_rfl) (fun _ _ _ h => h) (Or.inl ⟨by rfl, ?_⟩) hHeld0 ?_
      rotate_left
      · (intro w' hSw; (try dsimp only at hSw); go_simp; all_goals (with_reducible rfl))
      try simp only [Act.put, List.setIfInBounds_toArray, List.set_cons_zero, List.set_cons_succ]
      refine wpAnyH_take (i := 8) (oi := ⟨some 19, _, _, _, _, _⟩) (v := ?_) rfl (by kernel_rfl) (by kernel_rfl) (by kernel_rfl) (fun _ _ _ h => h) (Or.inl ⟨by rfl, ?_⟩) hHeld0 ?_
      rotate_left
      · (intro w' hSw; (try dsimp only at hSw); go_simp; all_goals (with_reducible rfl))
      try simp only [Act.put, List.setIfInBounds_toArray, List.set_cons_zero, List.set_cons_succ]
      refine wpAnyH_take (i := 9) (oi := ⟨some 20, _, _, _, _, _⟩) (v := ?_) rfl (by kernel_rfl) (by kernel_rfl) (by kernel_rfl) (fun _ _ _ h => h) (Or.inl ⟨by rfl, ?_⟩) hHeld0 ?_
      rotate_left
      · (intro w' hSw; (try dsimp only at hSw); go_simp; all_goals (with_reducible rfl))
      try simp only [Act.put, List.setIfInBounds_toArray, List.set_cons_zero, List.set_cons_succ]
      refine wpAnyH_take (i := 10) (oi := ⟨some 21, _, _, _, _, _⟩) (v := ?_) rfl (by kernel_rfl) (by kernel_rfl) (by kernel_rfl) (fun _ _ _ h => h) (Or.inl ⟨by rfl, ?_⟩) hHeld0 ?_
      rotate_left
      · (intro w' hSw; (try dsimp only at hSw); go_simp; all_goals (with_reducible rfl))
      try simp only [Act.put, List.setIfInBounds_toArray, List.set_cons_zero, List.set_cons_succ]
      refine wpAnyH_ready (rs := [11]) (by kernel_rfl) (by simp) (AllReadyH.cons (o := ⟨some 22, _, _, _, _, _⟩) rfl (fun K hK => ?_) AllReadyH.nil)
      go_simp
      refine (rscopy_any x.v _ hsr.drew (by omega)).mono ?_
      rintro e w2 ⟨⟨s2, A2, n2, c2'⟩, rfl, hs2, hown2, hb2⟩
      simp only at hs2
      subst hs2
      have hb2' : Below wr.heap.size wr w2 := (Below.refl _ _).drew.trans hb2
      have hlw : b < wr.heap.size := hb
      replace c0 := (hb2'.cell (p := ⟨b, o + k * 4, none⟩) (by show b < _; omega)).trans c0
      replace c1' := (hb2'.cell (p := ⟨b, o + k * 4 + 1, none⟩) (by show b < _; omega)).trans c1'
      replace c2 := (hb2'.cell (p := ⟨b, o + k * 4 + 2, none⟩) (by show b < _; omega)).trans c2
      replace c3 := (hb2'.cell (p := ⟨b, o + k * 4 + 3, none⟩) (by show b < _; omega)).trans c3
      have hown3 := own_below hown hb2'
      simp only [sv]
      go_simp
      refine hK.out _ _ (by exact ⟨c0, c1', c2, c3⟩) (fun hHeld1 => ?_)
      clear hK hHeld0 K
      try simp only [Act.put, List.setIfInBounds_toArray, List.set_cons_zero, List.set_cons_succ]
      refine wpAnyH_take (i := 12) (oi := ⟨some 23, _, _, _, _, _⟩) (v := ?_) rfl (by kernel_rfl) (by kernel_rfl) (by kernel_rfl) (fun _ _ _ h => h) (Or.inl ⟨by rfl, ?_⟩) hHeld1 ?_
      rotate_left
      · (intro w' hSw; (try dsimp only at hSw); go_simp; all_goals (with_reducible rfl))
      try simp only [Act.put, List.setIfInBounds_toArray, List.set_cons_zero, List.set_cons_succ]
      refine wpAnyH_ready (rs := [13]) (by kernel_rfl) (by simp) (AllReadyH.cons (o := ⟨some 24, _, _, _, _, _⟩) rfl (fun K hK => ?_) AllReadyH.nil)
      go_simp
      have hb2l : b < w2.heap.size := by have := hb2'.size; omega
      have g0 := c0
      have g1 := c1'
      have g2 := c2
      have g3 := c3
      replace c0 := (World.cell?_alloc_lt w2 (.cells #[.int .i64 x.node, .int .i64 x.v.s.gen, .int .i64 x.v.s.beat, .slice A2 n2 c2'] 45) ⟨b, o + k * 4, none⟩ hb2l).trans c0
      replace c1' := (World.cell?_alloc_lt w2 (.cells #[.int .i64 x.node, .int .i64 x.v.s.gen, .int .i64 x.v.s.beat, .slice A2 n2 c2'] 45) ⟨b, o + k * 4 + 1, none⟩ hb2l).trans c1'
      replace c2 := (World.cell?_alloc_lt w2 (.cells #[.int .i64 x.node, .int .i64 x.v.s.gen, .int .i64 x.v.s.beat, .slice A2 n2 c2'] 45) ⟨b, o + k * 4 + 2, none⟩ hb2l).trans c2
      replace c3 := (World.cell?_alloc_lt w2 (.cells #[.int .i64 x.node, .int .i64 x.v.s.gen, .int .i64 x.v.s.beat, .slice A2 n2 c2'] 45) ⟨b, o + k * 4 + 3, none⟩ hb2l).trans c3
      go_simp
      refine hK.out _ _ (by exact ⟨c0, c1', c2, c3⟩) (fun hHeld2 => ?_)
      clear hK hHeld1 K
      try simp only [Act.put, List.setIfInBounds_toArray, List.set_cons_zero, List.set_cons_succ]
      refine wpAnyH_ready (rs := [14]) (by kernel_rfl) (by simp) (AllReadyH.cons (o := ⟨some 25, _, _, _, _, _⟩) rfl (fun K hK => ?_) AllReadyH.nil)
      refine pushF_step (f := ncl) (y := ⟨x.node, ⟨x.v.s, A2, n2, c2'⟩⟩) nmT ncl_len ncl_one rfl (.tmp 11) (.tmp 24) (by rfl) w.heap.size rfl (by rfl) (by rfl) hown3 (by omega) (by omega) (by have := hb2'.size; omega) ?_
      rintro A3 c3' w3 hown4 hb3 hkeep
      have hs2 : wr.heap.size ≤ w2.heap.size := hb2'.size
      have hb3' : Below w.heap.size w2 w3 := hb3
      have hcell : ∀ o', w3.cell? ⟨b, o', none⟩ = w2.cell? ⟨b, o', none⟩ := fun o' => hb3.cell (p := ⟨b, o', none⟩) hbw
      replace c0 := (hcell _).trans g0
      replace c1' := (hcell _).trans g1
      replace c2 := (hcell _).trans g2
      replace c3 := (hcell _).trans g3
      clear hcell
      go_simp
      refine hK.out _ _ (by exact ⟨c0, c1', c2, c3⟩) (fun hHeld3 => ?_)
      clear hK hHeld2 K
      try simp only [Act.put, List.setIfInBounds_toArray, List.set_cons_zero, List.set_cons_succ]
      refine wpAnyH_take (i := 15) (oi := ⟨some 3, _, _, _, _, _⟩) (v := ?_) rfl (by kernel_rfl) (by kernel_rfl) (by kernel_rfl) (fun _ _ _ h => h) (Or.inl ⟨by rfl, ?_⟩) hHeld3 ?_
      rotate_left
      · (intro w' hSw; (try dsimp only at hSw); go_simp; all_goals (with_reducible rfl))
      try simp only [Act.put, List.setIfInBounds_toArray, List.set_cons_zero, List.set_cons_succ]
      refine wpAnyH_done (by kernel_rfl) ?_ _
      go_wp2
      go_roundw
      case rel =>
        refine ⟨k + 1, A3, c3', O ++ [⟨x.node, ⟨x.v.s, A2, n2, c2'⟩⟩], by omega, by go_num, rfl, ?_, hown4, ?_, (hbel.trans (hb2'.mono hbs)).trans hb3⟩
        · rw [List.map_append, HO.out, take_more HX.out, List.map_append]; rfl
        · intro y hy
          rcases List.mem_append.1 hy with hy | hy
          · have h1 := HALL.out y hy
            exact hkeep (h1.1.belowH hb2') h1.2
          · obtain rfl : y = ⟨x.node, ⟨x.v.s, A2, n2, c2'⟩⟩ := by simpa using hy
            exact hkeep hown2.srd (off_made hown hown2 (Nat.le_refl _))
      case measure => simp [intOf]; omega
    · have he : l.take k = l := List.take_of_length_le (by have := HL.out; omega)
      have hO := HO.out
      rw [he] at hO
      have HO2 := Lib.hid hO
      clear hO he
      go_wp2
      go_ret
      exact ⟨⟨O, A1, k, c1⟩, rfl, HO2.out, ⟨hown, HALL.out⟩, hbel⟩
end Go.Proofs.Ytpfkgddcoancnaa
