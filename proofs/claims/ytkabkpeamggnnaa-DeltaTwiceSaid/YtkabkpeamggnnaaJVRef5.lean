/- VRef5 (merged). -/
import Derived.Test.YtkabkpeamggnnaaJVRef4
namespace Go.Proofs.Ytkabkpeamggnnaa
set_option linter.unusedVariables false
set_option linter.unusedSimpArgs false
open Go.RowKit

theorem rise_bound : ∀ {l : List Ent} {a b : Int}, E.rising l → (∀ x ∈ l, a ≤ x.key ∧ x.key < b) → a ≤ b → (l.length : Int) ≤ b - a := by
  intro l
  induction l with
  | nil => intro a b _ _ h; simp; omega
  | cons x r ih =>
    intro a b hr hb hab
    have h1 := hb x (by simp)
    have h2 := ih (a := x.key + 1) (b := b) hr.2 (fun y hy => ⟨by have := hr.1 y hy; omega, (hb y (by simp [hy])).2⟩) (by omega)
    simp only [List.length_cons]
    omega
theorem right_len {l : List Ent} (h : E.right l) : l.length ≤ 12 := by
  have := rise_bound (a := 0) (b := 12) h.2 (fun x hx => ⟨(h.1 x hx).1, (h.1 x hx).2.1⟩) (by omega)
  omega
theorem riseV_bound : ∀ {l : List Nm} {a b : Int}, V.rising l → (∀ x ∈ l, a ≤ x.node ∧ x.node < b) → a ≤ b → (l.length : Int) ≤ b - a := by
  intro l
  induction l with
  | nil => intro a b _ _ h; simp; omega
  | cons x r ih =>
    intro a b hr hb hab
    have h1 := hb x (by simp)
    have h2 := ih (a := x.node + 1) (b := b) hr.2 (fun y hy => ⟨by have := hr.1 y hy; omega, (hb y (by simp [hy])).2⟩) (by omega)
    simp only [List.length_cons]
    omega
theorem rightV_len {l : List Nm} (h : V.right l) : l.length ≤ 8 := by
  have := riseV_bound (a := 0) (b := 8) h.2 (fun x hx => ⟨(h.1 x hx).1, (h.1 x hx).2.1⟩) (by omega)
  omega
theorem right_n {w : World} {U : Vw} (h : VRd w U) (hr : V.right U.view) : U.n ≤ 8 := by have := rightV_len hr; rw [h.viewlen] at this; exact this
theorem riseV_take {l : List Nm} (h : V.rising l) (k : Nat) : V.rising (l.take k) := by
  induction l generalizing k with
  | nil => simp [V.rising]
  | cons x r ih =>
    cases k with
    | zero => simp [V.rising]
    | succ k =>
      rw [List.take_succ_cons]
      exact ⟨fun y hy => h.1 y (List.mem_of_mem_take hy), ih h.2 k⟩
theorem right_takeV {l : List Nm} (h : V.right l) (k : Nat) : V.right (l.take k) := ⟨fun x hx => h.1 x (List.mem_of_mem_take hx), riseV_take h.2 k⟩
theorem right_fitR {w : World} {U : Vw} (h : VRd w U) (hr : V.right U.view) : VFit U := fun x hx => by
  have h1 := (hr.1 x.nm (List.mem_map.2 ⟨x, hx, rfl⟩)).2.2.2.2.2.2
  have h2 := right_len h1
  have h3 := (h.2 x hx).len
  have h4 : x.v.s.apps.length ≤ 12 := h2
  omega

set_option maxHeartbeats 8000000 in
set_option maxRecDepth 20000 in
theorem rvjoin_any (U U' : Vw) (w : World) (h : VRd w U) (h' : VRd w U') (hra : V.right U.view) (hrb : V.right U'.view) :
    Calls Try.prog 32 #[vval U, vval U'] w (MadeV w (V.join U.view U'.view)) := by
  have HRA := Lib.hid hra
  have HRB := Lib.hid hrb
  have hf := right_fitR h hra
  have hn := right_n h hra
  have hn' := right_n h' hrb
  have hbl := h'.viewlen
  have HBL := Lib.hid hbl
  clear hra hrb hbl
  obtain ⟨l', A', n', c'⟩ := U'
  simp only at hn'
  have hfb := right_fitR h' HRB.out
  have HFB := Lib.hid hfb
  clear hfb
  go_enter Try.func32, Try.ntmps32
  simp only [vval]
  go_wp2_with fail
  refine (rvcopy_any U w h (by omega) hf).mono ?_
  rintro e w1 ⟨V1, rfl, hv1, ho1, hb1⟩
  have HV1 := Lib.hid hv1
  have HOWN1 := Lib.hid ho1
  have HB1 := Lib.hid hb1
  clear hv1 ho1 hb1
  simp only [vval]
  go_wp2
  go_loopw [5, 6] (fun s i wr => ∃ (k : Nat) (Vo : Vw), k ≤ n' ∧ i = .int .i64 k ∧ s = .slice Vo.A Vo.n Vo.c ∧ Vo.view = V.join U.view ((Vw.view ⟨l', A', n', c'⟩).take k) ∧ VOwn w.heap.size wr Vo ∧ Below w.heap.size w wr) (fun _ i _ => n' - (intOf i).toNat)
  case atStart => exact ⟨0, V1, by omega, rfl, rfl, HV1.out, HOWN1.out, HB1.out⟩
  case round =>
    obtain ⟨k, Vo, hk, rfl, rfl, hvo, hown, hbel⟩ := hrel
    have HVO := Lib.hid hvo
    have hbs := hbel.size
    have hrt : V.right Vo.view := by rw [hvo]; exact V.join_right HRA.out (right_takeV HRB.out k)
    have hvr := hown.vrd
    have hno := right_n hvr hrt
    have hfo := right_fitR hvr hrt
    have HRT := Lib.hid hrt
    have HFO := Lib.hid hfo
    clear hvo hrt hfo
    by_cases hlt : k < n'
    · obtain ⟨b, o, y, e1, hb, hy, hsy, c0, c1', c2, c3⟩ := (h'.belowH hbel).at hlt
      simp only at e1 hy
      subst e1
      have hk0 : (0 : Int) ≤ (k : Int) := by omega
      have hfy := HFB.out y (List.mem_of_getElem? hy)
      have HY : Hid ((Vw.view ⟨l', some ⟨b, o, none⟩, n', c'⟩)[k]? = some y.nm) := Lib.hid (nm_at hy)
      have hry : V.may y.nm := HRB.out.1 _ (List.mem_map.2 ⟨y, List.mem_of_getElem? hy, rfl⟩)
      have HRY := Lib.hid hry
      clear hy hry
      go_wp2_with fail
      refine (rvget_any Vo y.node wr hvr (by omega) HFO.out).mono ?_
      rintro e w2 ⟨⟨sg, Ag, ng, cg⟩, rfl, hsg, hrg, hb2⟩
      simp only at hsg
      have hbel2 := hbel.trans (hb2.mono hbs)
      have hown2 := hown.below hb2
      have hsy2 := hsy.belowH hb2
      replace c0 := (hb2.cell (p := ⟨b, o + k * 4, none⟩) (by show b < _; omega)).trans c0
      replace c1' := (hb2.cell (p := ⟨b, o + k * 4 + 1, none⟩) (by show b < _; omega)).trans c1'
      replace c2 := (hb2.cell (p := ⟨b, o + k * 4 + 2, none⟩) (by show b < _; omega)).trans c2
      replace c3 := (hb2.cell (p := ⟨b, o + k * 4 + 3, none⟩) (by show b < _; omega)).trans c3
      have hb2l : b < w2.heap.size := by have := hb2.size; omega
      have G2 := Box.new w2 #[.int .i64 sg.gen, .int .i64 sg.beat, .slice Ag ng cg] 40
      have hbel3 := hbel2.alloc hbel2.size (.cells #[.int .i64 sg.gen, .int .i64 sg.beat, .slice Ag ng cg] 40)
      have hrg3 := hrg.allocH (.cells #[.int .i64 sg.gen, .int .i64 sg.beat, .slice Ag ng cg] 40)
      have hsy3 := hsy2.allocH (.cells #[.int .i64 sg.gen, .int .i64 sg.beat, .slice Ag ng cg] 40)
      have hvo3 := hown2.vrd.allocH (.cells #[.int .i64 sg.gen, .int .i64 sg.beat, .slice Ag ng cg] 40)
      have hs3 : w2.heap.size < (w2.alloc (.cells #[.int .i64 sg.gen, .int .i64 sg.beat, .slice Ag ng cg] 40)).heap.size := by simp
      replace c0 := (World.cell?_alloc_lt w2 (.cells #[.int .i64 sg.gen, .int .i64 sg.beat, .slice Ag ng cg] 40) ⟨b, o + k * 4, none⟩ hb2l).trans c0
      replace c1' := (World.cell?_alloc_lt w2 (.cells #[.int .i64 sg.gen, .int .i64 sg.beat, .slice Ag ng cg] 40) ⟨b, o + k * 4 + 1, none⟩ hb2l).trans c1'
      replace c2 := (World.cell?_alloc_lt w2 (.cells #[.int .i64 sg.gen, .int .i64 sg.beat, .slice Ag ng cg] 40) ⟨b, o + k * 4 + 2, none⟩ hb2l).trans c2
      replace c3 := (World.cell?_alloc_lt w2 (.cells #[.int .i64 sg.gen, .int .i64 sg.beat, .slice Ag ng cg] 40) ⟨b, o + k * 4 + 3, none⟩ hb2l).trans c3
      clear hb2 hown hbel hsy hvr hrg hsy2 hbel2 hown2
      simp only [sv]
      rcases hg : V.get Vo.view y.node with _ | xs
      · have hstep : V.step Vo.view y.nm = V.put Vo.view y.node y.v.s := by unfold V.step; rw [show V.get Vo.view y.nm.node = none from hg]; rfl
        have HST := Lib.hid hstep
        clear hstep hg hsg
        simp only [Option.isSome]
        go_wp2
        generalize w2.alloc (.cells #[.int .i64 sg.gen, .int .i64 sg.beat, .slice Ag ng cg] 40) = w3 at *
        have y0 := G2.at 0 rfl
        have y1 := G2.at 1 rfl
        have y2 := G2.at 2 rfl
        refine wp_region_held_drew (S := (fun w' => (w'.cell? ⟨b, o + k * 4, none⟩ = some (.int .i64 y.node) ∧ w'.cell? ⟨b, o + k * 4 + 1, none⟩ = some (.int .i64 y.v.s.gen) ∧ w'.cell? ⟨b, o + k * 4 + 2, none⟩ = some (.int .i64 y.v.s.beat) ∧ w'.cell? ⟨b, o + k * 4 + 3, none⟩ = some (.slice y.v.A y.v.n y.v.c)) ∧ (w'.cell? ⟨w2.heap.size, 0, none⟩ = some (.int .i64 sg.gen) ∧ w'.cell? ⟨w2.heap.size, 1, none⟩ = some (.int .i64 sg.beat) ∧ w'.cell? ⟨w2.heap.size, 2, none⟩ = some (.slice Ag ng cg)))) (by kernel_rfl) (by exact ⟨⟨c0, c1', c2, c3⟩, y0, y1, y2⟩) (fun hHeld0 => ?_)
        refine wpAnyH_take (i := 0) (oi := ⟨some 42, _, _, _, _, _⟩) (v := ?_) rfl (by kernel_rfl) (by kernel_rfl) (by kernel_rfl) (fun _ _ _ h => h) (Or.inl ⟨by rfl, ?_⟩) hHeld0 ?_
        rotate_left
        · (intro w' hSw; (try dsimp only at hSw); go_simp; all_goals (with_reducible rfl))
        try simp only [Act.put, sA, sB, sC]
        refine wpAnyH_take (i := 1) (oi := ⟨some 43, _, _, _, _, _⟩) (v := ?_) rfl (by kernel_rfl) (by kernel_rfl) (by kernel_rfl) (fun _ _ _ h => h) (Or.inl ⟨by rfl, ?_⟩) hHeld0 ?_
        rotate_left
        · (intro w' hSw; (try dsimp only at hSw); go_simp; all_goals (with_reducible rfl))
        try simp only [Act.put, sA, sB, sC]
        refine wpAnyH_take (i := 2) (oi := ⟨some 44, _, _, _, _, _⟩) (v := ?_) rfl (by kernel_rfl) (by kernel_rfl) (by kernel_rfl) (fun _ _ _ h => h) (Or.inl ⟨by rfl, ?_⟩) hHeld0 ?_
        rotate_left
        · (intro w' hSw; (try dsimp only at hSw); go_simp; all_goals (with_reducible rfl))
        try simp only [Act.put, sA, sB, sC]
        refine wpAnyH_take (i := 3) (oi := ⟨some 45, _, _, _, _, _⟩) (v := ?_) rfl (by kernel_rfl) (by kernel_rfl) (by kernel_rfl) (fun _ _ _ h => h) (Or.inl ⟨by rfl, ?_⟩) hHeld0 ?_
        rotate_left
        · (intro w' hSw; (try dsimp only at hSw); go_simp; all_goals (with_reducible rfl))
        try simp only [Act.put, sA, sB, sC]
        refine wpAnyH_take (i := 4) (oi := ⟨some 46, _, _, _, _, _⟩) (v := ?_) rfl (by kernel_rfl) (by kernel_rfl) (by kernel_rfl) (fun _ _ _ h => h) (Or.inl ⟨by rfl, ?_⟩) hHeld0 ?_
        rotate_left
        · (intro w' hSw; (try dsimp only at hSw); go_simp; all_goals (with_reducible rfl))
        try simp only [Act.put, sA, sB, sC]
        refine wpAnyH_take (i := 5) (oi := ⟨some 47, _, _, _, _, _⟩) (v := ?_) rfl (by kernel_rfl) (by kernel_rfl) (by kernel_rfl) (fun _ _ _ h => h) (Or.inl ⟨by rfl, ?_⟩) hHeld0 ?_
        rotate_left
        · (intro w' hSw; (try dsimp only at hSw); go_simp; all_goals (with_reducible rfl))
        try simp only [Act.put, sA, sB, sC]
        refine wpAnyH_take (i := 6) (oi := ⟨some 48, _, _, _, _, _⟩) (v := ?_) rfl (by kernel_rfl) (by kernel_rfl) (by kernel_rfl) (fun _ _ _ h => h) (Or.inl ⟨by rfl, ?_⟩) hHeld0 ?_
        rotate_left
        · (intro w' hSw; (try dsimp only at hSw); go_simp; all_goals (with_reducible rfl))
        try simp only [Act.put, sA, sB, sC]
        refine wpAnyH_take (i := 7) (oi := ⟨some 49, _, _, _, _, _⟩) (v := ?_) rfl (by kernel_rfl) (by kernel_rfl) (by kernel_rfl) (fun _ _ _ h => h) (Or.inl ⟨by rfl, ?_⟩) hHeld0 ?_
        rotate_left
        · (intro w' hSw; (try dsimp only at hSw); go_simp; all_goals (with_reducible rfl))
        try simp only [Act.put, sA, sB, sC]
        refine wpAnyH_take (i := 8) (oi := ⟨some 50, _, _, _, _, _⟩) (v := ?_) rfl (by kernel_rfl) (by kernel_rfl) (by kernel_rfl) (fun _ _ _ h => h) (Or.inl ⟨by rfl, ?_⟩) hHeld0 ?_
        rotate_left
        · (intro w' hSw; (try dsimp only at hSw); go_simp; all_goals (with_reducible rfl))
        try simp only [Act.put, sA, sB, sC]
        refine wpAnyH_take (i := 9) (oi := ⟨some 51, _, _, _, _, _⟩) (v := ?_) rfl (by kernel_rfl) (by kernel_rfl) (by kernel_rfl) (fun _ _ _ h => h) (Or.inl ⟨by rfl, ?_⟩) hHeld0 ?_
        rotate_left
        · (intro w' hSw; (try dsimp only at hSw); go_simp; all_goals (with_reducible rfl))
        try simp only [Act.put, sA, sB, sC]
        refine wpAnyH_take (i := 10) (oi := ⟨some 52, _, _, _, _, _⟩) (v := ?_) rfl (by kernel_rfl) (by kernel_rfl) (by kernel_rfl) (fun _ _ _ h => h) (Or.inl ⟨by rfl, ?_⟩) hHeld0 ?_
        rotate_left
        · (intro w' hSw; (try dsimp only at hSw); go_simp; all_goals (with_reducible rfl))
        try simp only [Act.put, sA, sB, sC]
        refine wpAnyH_ready (rs := [11]) (by kernel_rfl) (by simp) (AllReadyH.cons (o := ⟨some 53, _, _, _, _, _⟩) rfl (fun K hK => ?_) AllReadyH.nil)
        go_simp
        refine (rvput_any Vo y.node y.v _ hvo3.drewH (by omega) HFO.out hsy3.drewH (by omega) HRT.out.2).mono ?_
        rintro e w5 ⟨V5, rfl, hv5, ho5, hb5⟩
        have HV5 := Lib.hid hv5
        have hb5' : Below w3.heap.size w3 w5 := (Below.refl _ _).drew.trans hb5
        have hbl3 : b < w3.heap.size := by omega
        replace c0 := (hb5'.cell (p := ⟨b, o + k * 4, none⟩) (by show b < _; omega)).trans c0
        replace c1' := (hb5'.cell (p := ⟨b, o + k * 4 + 1, none⟩) (by show b < _; omega)).trans c1'
        replace c2 := (hb5'.cell (p := ⟨b, o + k * 4 + 2, none⟩) (by show b < _; omega)).trans c2
        replace c3 := (hb5'.cell (p := ⟨b, o + k * 4 + 3, none⟩) (by show b < _; omega)).trans c3
        replace y0 := (hb5'.cell (p := ⟨w2.heap.size, 0, none⟩) (by show w2.heap.size < _; omega)).trans y0
        replace y1 := (hb5'.cell (p := ⟨w2.heap.size, 1, none⟩) (by show w2.heap.size < _; omega)).trans y1
        replace y2 := (hb5'.cell (p := ⟨w2.heap.size, 2, none⟩) (by show w2.heap.size < _; omega)).trans y2
        have hbel5 := hbel3.trans (hb5'.mono hbel3.size)
        have hs5 : w.heap.size ≤ w3.heap.size := hbel3.size
        clear hv5
        simp only [vval]
        go_simp
        refine hK.out _ _ (by exact ⟨⟨c0, c1', c2, c3⟩, y0, y1, y2⟩) (fun hHeld1 => ?_)
        clear hK hHeld0 K
        try simp only [Act.put, sA, sB, sC]
        refine wpAnyH_take (i := 12) (oi := ⟨some 5, _, _, _, _, _⟩) (v := ?_) rfl (by kernel_rfl) (by kernel_rfl) (by kernel_rfl) (fun _ _ _ h => h) (Or.inl ⟨by rfl, ?_⟩) hHeld1 ?_
        rotate_left
        · (intro w' hSw; (try dsimp only at hSw); go_simp; all_goals (with_reducible rfl))
        try simp only [Act.put, sA, sB, sC]
        refine wpAnyH_done (by kernel_rfl) ?_ _
        go_wp2
        go_roundw
        case rel => exact ⟨k + 1, V5, by omega, by go_num, rfl, by rw [HV5.out, take_more HY.out, V.join_snoc, ← HVO.out, HST.out], ho5.mono hs5, hbel5⟩
        case measure => simp [intOf]; omega
      · rw [hg] at hsg
        obtain rfl : sg = xs := hsg
        have hstep : V.step Vo.view y.nm = V.put Vo.view y.node (S.join sg y.v.s) := by unfold V.step; rw [show V.get Vo.view y.nm.node = some sg from hg]; rfl
        have HST := Lib.hid hstep
        have hgm := HRT.out.1 _ (V.get_mem hg)
        have hgl : ng ≤ 4000 := by have h1 := hrg3.len; have h2 := right_len hgm.2.2.2.2.2.2; simp only at h1 h2; omega
        have HGM := Lib.hid hgm
        clear hstep hg hgm
        simp only [Option.isSome]
        go_wp2
        generalize w2.alloc (.cells #[.int .i64 sg.gen, .int .i64 sg.beat, .slice Ag ng cg] 40) = w3 at *
        have y0 := G2.at 0 rfl
        have y1 := G2.at 1 rfl
        have y2 := G2.at 2 rfl
        refine wp_region_held_drew (S := (fun w' => (w'.cell? ⟨b, o + k * 4, none⟩ = some (.int .i64 y.node) ∧ w'.cell? ⟨b, o + k * 4 + 1, none⟩ = some (.int .i64 y.v.s.gen) ∧ w'.cell? ⟨b, o + k * 4 + 2, none⟩ = some (.int .i64 y.v.s.beat) ∧ w'.cell? ⟨b, o + k * 4 + 3, none⟩ = some (.slice y.v.A y.v.n y.v.c)) ∧ (w'.cell? ⟨w2.heap.size, 0, none⟩ = some (.int .i64 sg.gen) ∧ w'.cell? ⟨w2.heap.size, 1, none⟩ = some (.int .i64 sg.beat) ∧ w'.cell? ⟨w2.heap.size, 2, none⟩ = some (.slice Ag ng cg)))) (by kernel_rfl) (by exact ⟨⟨c0, c1', c2, c3⟩, y0, y1, y2⟩) (fun hHeld0 => ?_)
        refine wpAnyH_take (i := 0) (oi := ⟨some 28, _, _, _, _, _⟩) (v := ?_) rfl (by kernel_rfl) (by kernel_rfl) (by kernel_rfl) (fun _ _ _ h => h) (Or.inl ⟨by rfl, ?_⟩) hHeld0 ?_
        rotate_left
        · (intro w' hSw; (try dsimp only at hSw); go_simp; all_goals (with_reducible rfl))
        try simp only [Act.put, sA, sB, sC]
        refine wpAnyH_take (i := 1) (oi := ⟨some 29, _, _, _, _, _⟩) (v := ?_) rfl (by kernel_rfl) (by kernel_rfl) (by kernel_rfl) (fun _ _ _ h => h) (Or.inl ⟨by rfl, ?_⟩) hHeld0 ?_
        rotate_left
        · (intro w' hSw; (try dsimp only at hSw); go_simp; all_goals (with_reducible rfl))
        try simp only [Act.put, sA, sB, sC]
        refine wpAnyH_take (i := 2) (oi := ⟨some 30, _, _, _, _, _⟩) (v := ?_) rfl (by kernel_rfl) (by kernel_rfl) (by kernel_rfl) (fun _ _ _ h => h) (Or.inl ⟨by rfl, ?_⟩) hHeld0 ?_
        rotate_left
        · (intro w' hSw; (try dsimp only at hSw); go_simp; all_goals (with_reducible rfl))
        try simp only [Act.put, sA, sB, sC]
        refine wpAnyH_take (i := 3) (oi := ⟨some 31, _, _, _, _, _⟩) (v := ?_) rfl (by kernel_rfl) (by kernel_rfl) (by kernel_rfl) (fun _ _ _ h => h) (Or.inl ⟨by rfl, ?_⟩) hHeld0 ?_
        rotate_left
        · (intro w' hSw; (try dsimp only at hSw); go_simp; all_goals (with_reducible rfl))
        try simp only [Act.put, sA, sB, sC]
        refine wpAnyH_take (i := 4) (oi := ⟨some 32, _, _, _, _, _⟩) (v := ?_) rfl (by kernel_rfl) (by kernel_rfl) (by kernel_rfl) (fun _ _ _ h => h) (Or.inl ⟨by rfl, ?_⟩) hHeld0 ?_
        rotate_left
        · (intro w' hSw; (try dsimp only at hSw); go_simp; all_goals (with_reducible rfl))
        try simp only [Act.put, sA, sB, sC]
        refine wpAnyH_take (i := 5) (oi := ⟨some 33, _, _, _, _, _⟩) (v := ?_) rfl (by kernel_rfl) (by kernel_rfl) (by kernel_rfl) (fun _ _ _ h => h) (Or.inl ⟨by rfl, ?_⟩) hHeld0 ?_
        rotate_left
        · (intro w' hSw; (try dsimp only at hSw); go_simp; all_goals (with_reducible rfl))
        try simp only [Act.put, sA, sB, sC]
        refine wpAnyH_take (i := 6) (oi := ⟨some 34, _, _, _, _, _⟩) (v := ?_) rfl (by kernel_rfl) (by kernel_rfl) (by kernel_rfl) (fun _ _ _ h => h) (Or.inl ⟨by rfl, ?_⟩) hHeld0 ?_
        rotate_left
        · (intro w' hSw; (try dsimp only at hSw); go_simp; all_goals (with_reducible rfl))
        try simp only [Act.put, sA, sB, sC]
        refine wpAnyH_take (i := 7) (oi := ⟨some 35, _, _, _, _, _⟩) (v := ?_) rfl (by kernel_rfl) (by kernel_rfl) (by kernel_rfl) (fun _ _ _ h => h) (Or.inl ⟨by rfl, ?_⟩) hHeld0 ?_
        rotate_left
        · (intro w' hSw; (try dsimp only at hSw); go_simp; all_goals (with_reducible rfl))
        try simp only [Act.put, sA, sB, sC]
        refine wpAnyH_take (i := 8) (oi := ⟨some 36, _, _, _, _, _⟩) (v := ?_) rfl (by kernel_rfl) (by kernel_rfl) (by kernel_rfl) (fun _ _ _ h => h) (Or.inl ⟨by rfl, ?_⟩) hHeld0 ?_
        rotate_left
        · (intro w' hSw; (try dsimp only at hSw); go_simp; all_goals (with_reducible rfl))
        try simp only [Act.put, sA, sB, sC]
        refine wpAnyH_take (i := 9) (oi := ⟨some 37, _, _, _, _, _⟩) (v := ?_) rfl (by kernel_rfl) (by kernel_rfl) (by kernel_rfl) (fun _ _ _ h => h) (Or.inl ⟨by rfl, ?_⟩) hHeld0 ?_
        rotate_left
        · (intro w' hSw; (try dsimp only at hSw); go_simp; all_goals (with_reducible rfl))
        try simp only [Act.put, sA, sB, sC]
        refine wpAnyH_take (i := 10) (oi := ⟨some 38, _, _, _, _, _⟩) (v := ?_) rfl (by kernel_rfl) (by kernel_rfl) (by kernel_rfl) (fun _ _ _ h => h) (Or.inl ⟨by rfl, ?_⟩) hHeld0 ?_
        rotate_left
        · (intro w' hSw; (try dsimp only at hSw); go_simp; all_goals (with_reducible rfl))
        try simp only [Act.put, sA, sB, sC]
        refine wpAnyH_take (i := 11) (oi := ⟨some 39, _, _, _, _, _⟩) (v := ?_) rfl (by kernel_rfl) (by kernel_rfl) (by kernel_rfl) (fun _ _ _ h => h) (Or.inl ⟨by rfl, ?_⟩) hHeld0 ?_
        rotate_left
        · (intro w' hSw; (try dsimp only at hSw); go_simp; all_goals (with_reducible rfl))
        try simp only [Act.put, sA, sB, sC]
        refine wpAnyH_ready (rs := [12]) (by kernel_rfl) (by simp) (AllReadyH.cons (o := ⟨some 40, _, _, _, _, _⟩) rfl (fun K hK => ?_) AllReadyH.nil)
        go_simp
        refine (rsjoin_any ⟨sg, Ag, ng, cg⟩ y.v _ hrg3.drewH hsy3.drewH (by show ng ≤ _; omega) (by omega) (S.right_rise HGM.out.2.2)).mono ?_
        rintro e w4 ⟨⟨sj, Aj, nj, cj⟩, rfl, hsj, hoj, hb4⟩
        simp only at hsj
        have hb4' : Below w3.heap.size w3 w4 := (Below.refl _ _).drew.trans hb4
        have hbl3 : b < w3.heap.size := by omega
        replace c0 := (hb4'.cell (p := ⟨b, o + k * 4, none⟩) (by show b < _; omega)).trans c0
        replace c1' := (hb4'.cell (p := ⟨b, o + k * 4 + 1, none⟩) (by show b < _; omega)).trans c1'
        replace c2 := (hb4'.cell (p := ⟨b, o + k * 4 + 2, none⟩) (by show b < _; omega)).trans c2
        replace c3 := (hb4'.cell (p := ⟨b, o + k * 4 + 3, none⟩) (by show b < _; omega)).trans c3
        replace y0 := (hb4'.cell (p := ⟨w2.heap.size, 0, none⟩) (by show w2.heap.size < _; omega)).trans y0
        replace y1 := (hb4'.cell (p := ⟨w2.heap.size, 1, none⟩) (by show w2.heap.size < _; omega)).trans y1
        replace y2 := (hb4'.cell (p := ⟨w2.heap.size, 2, none⟩) (by show w2.heap.size < _; omega)).trans y2
        have hrj := hoj.srd
        have HSJ := Lib.hid hsj
        have hvo4 := hvo3.belowH hb4'
        have hbel4 := hbel3.trans (hb4'.mono hbel3.size)
        have hnj : nj ≤ 4000 := by have h1 := hrj.len; have h2 : (S.join sg y.v.s).apps.length ≤ 12 := right_len (S.join_right HGM.out.2.2 HRY.out.2.2).2.2.2.2; rw [← show sj = S.join sg y.v.s from hsj] at h2; simp only at h1; omega
        have hb4l : b < w4.heap.size := by have := hb4'.size; omega
        have hw4 : w2.heap.size < w4.heap.size := by have := hb4'.size; omega
        clear hsj hoj hb4
        simp only [sv]
        go_simp
        refine hK.out _ _ (by exact ⟨⟨c0, c1', c2, c3⟩, y0, y1, y2⟩) (fun hHeld1 => ?_)
        clear hK hHeld0 K
        try simp only [Act.put, sA, sB, sC]
        refine wpAnyH_ready (rs := [13]) (by kernel_rfl) (by simp) (AllReadyH.cons (o := ⟨some 41, _, _, _, _, _⟩) rfl (fun K hK => ?_) AllReadyH.nil)
        go_simp
        refine (rvput_any Vo y.node ⟨sj, Aj, nj, cj⟩ _ hvo4 (by omega) HFO.out hrj (by show nj ≤ _; omega) HRT.out.2).mono ?_
        rintro e w5 ⟨V5, rfl, hv5, ho5, hb5⟩
        have HV5 := Lib.hid hv5
        replace c0 := (hb5.cell (p := ⟨b, o + k * 4, none⟩) (by show b < _; omega)).trans c0
        replace c1' := (hb5.cell (p := ⟨b, o + k * 4 + 1, none⟩) (by show b < _; omega)).trans c1'
        replace c2 := (hb5.cell (p := ⟨b, o + k * 4 + 2, none⟩) (by show b < _; omega)).trans c2
        replace c3 := (hb5.cell (p := ⟨b, o + k * 4 + 3, none⟩) (by show b < _; omega)).trans c3
        replace y0 := (hb5.cell (p := ⟨w2.heap.size, 0, none⟩) (by show w2.heap.size < _; omega)).trans y0
        replace y1 := (hb5.cell (p := ⟨w2.heap.size, 1, none⟩) (by show w2.heap.size < _; omega)).trans y1
        replace y2 := (hb5.cell (p := ⟨w2.heap.size, 2, none⟩) (by show w2.heap.size < _; omega)).trans y2
        have hbel5 := hbel4.trans (hb5.mono hbel4.size)
        have hs5 : w.heap.size ≤ w4.heap.size := hbel4.size
        clear hv5
        simp only [vval]
        go_simp
        refine hK.out _ _ (by exact ⟨⟨c0, c1', c2, c3⟩, y0, y1, y2⟩) (fun hHeld2 => ?_)
        clear hK hHeld1 K
        try simp only [Act.put, sA, sB, sC]
        refine wpAnyH_take (i := 14) (oi := ⟨some 5, _, _, _, _, _⟩) (v := ?_) rfl (by kernel_rfl) (by kernel_rfl) (by kernel_rfl) (fun _ _ _ h => h) (Or.inl ⟨by rfl, ?_⟩) hHeld2 ?_
        rotate_left
        · (intro w' hSw; (try dsimp only at hSw); go_simp; all_goals (with_reducible rfl))
        try simp only [Act.put, sA, sB, sC]
        refine wpAnyH_done (by kernel_rfl) ?_ _
        go_wp2
        go_roundw
        case rel => exact ⟨k + 1, V5, by omega, by go_num, rfl, by rw [HV5.out, take_more HY.out, V.join_snoc, ← HVO.out, HST.out, HSJ.out], ho5.mono hs5, hbel5⟩
        case measure => simp [intOf]; omega
    · have he : (Vw.view ⟨l', A', n', c'⟩).take k = Vw.view ⟨l', A', n', c'⟩ := List.take_of_length_le (by have := HBL.out; omega)
      have hvo := HVO.out
      rw [he] at hvo
      have HV2 := Lib.hid hvo
      clear hvo he
      go_wp2
      go_ret
      exact ⟨Vo, rfl, HV2.out, hown, hbel⟩

set_option maxHeartbeats 2000000 in
theorem rvover_any (U U' : Vw) (w : World) (h : VRd w U) (h' : VRd w U') (hra : V.right U.view) (hrb : V.right U'.view) :
    Calls Try.prog 27 #[vval U, vval U'] w fun e w' => e = .returned (.bool (decide (V.join U.view U'.view = U.view))) ∧ Below w.heap.size w w' := by
  have HRA := Lib.hid hra
  have HRB := Lib.hid hrb
  clear hra hrb
  go_enter Try.func27, Try.ntmps27
  simp only [vval]
  go_wp2_with fail
  refine (rvjoin_any U U' w h h' HRA.out HRB.out).mono ?_
  rintro e w1 ⟨V1, rfl, hv1, ho1, hb1⟩
  have HV1 := Lib.hid hv1
  have hr1 : V.right V1.view := by rw [hv1]; exact V.join_right HRA.out HRB.out
  have h1 := ho1.vrd
  have hn1 := right_n h1 hr1
  have hf1 := right_fitR h1 hr1
  have h0 := h.belowH hb1
  have hn0 := right_n h0 HRA.out
  have hf0 := right_fitR h0 HRA.out
  clear hv1 hr1 ho1
  simp only [vval]
  go_wp2_with fail
  refine (rvsame_any V1 U w1 h1 h0 (by omega) (by omega) hf1 hf0).mono ?_
  rintro e w2 ⟨rfl, hb2⟩
  go_wp2
  go_ret
  exact ⟨by rw [HV1.out]; rfl, hb1.trans (hb2.mono hb1.size)⟩
end Go.Proofs.Ytkabkpeamggnnaa

