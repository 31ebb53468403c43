/- The code's lacks and Of on digests. -/
import Derived.Test.YtoemefoppkgfaaaDC1
import Derived.Test.YtoemefoppkgfaaaTCode1
namespace Go.Proofs.Ytoemefoppkgfaaa
set_option linter.unusedVariables false
set_option linter.unusedSimpArgs false
open Go.RowKit

set_option maxHeartbeats 4000000 in
set_option maxRecDepth 20000 in
theorem dlacks_any (a b : List Dg) (A A' : Option Addr) (n n' c c' : Nat) (w : World) (h : DRd w A n a) (h' : DRd w A' n' b) (hn : n ≤ 1000) (hn' : n' ≤ 1000) :
    Calls Try.prog 22 #[.slice A n c, .slice A' n' c'] w (MadeD w (D.lacks a b)) := by
  have HL := Lib.hid h'.len
  go_enter Try.func22, Try.ntmps22
  go_wp2
  go_loopw [5, 11] (fun v i wr => ∃ (k m : Nat) (A1 : Option Addr) (c1 : Nat), k ≤ n' ∧ v = .slice A1 m c1 ∧ i = .int .i64 k ∧ m ≤ k ∧ wr.ownsRow w.heap.size 34 3 (.slice A1 m c1) m (FC dcl (D.lacks a (b.take k))) ∧ Below w.heap.size w wr) (fun _ i _ => n' - (intOf i).toNat)
  case atStart => exact ⟨0, 0, none, 0, by omega, rfl, rfl, by omega, World.ownsRow_nil _ _ _ _, Below.refl _ _⟩
  case round =>
    obtain ⟨k, m, A1, c1, hk, rfl, rfl, hmk, hown, hbel⟩ := hrel
    have hbs := hbel.size
    by_cases hlt : k < n'
    · obtain ⟨b0, o, y, e1, hb0, hy, d0, d1, d2⟩ := (h'.belowH hbel).at hlt
      subst e1
      have hk0 : (0 : Int) ≤ (k : Int) := by omega
      have HM := Lib.hid (D.lacks_more (a := a) hy)
      clear hy
      have hown1 := hown.alloc (.cells #[.int .i64 y.node, .int .i64 y.gen, .int .i64 y.ver] 34)
      have b1 := hbel.alloc hbs (.cells #[.int .i64 y.node, .int .i64 y.gen, .int .i64 y.ver] 34)
      have Y1 := Box.new wr #[.int .i64 y.node, .int .i64 y.gen, .int .i64 y.ver] 34
      have y0 := Y1.at 0 rfl
      have hs1 : wr.heap.size < (wr.alloc (.cells #[.int .i64 y.node, .int .i64 y.gen, .int .i64 y.ver] 34)).heap.size := by simp
      clear hown hbel
      go_wp2_with fail
      generalize wr.alloc (.cells #[.int .i64 y.node, .int .i64 y.gen, .int .i64 y.ver] 34) = w1 at *
      refine (dknown_any a y.node A n c w1 (h.belowH b1) hn).mono ?_
      rintro e w2 ⟨rfl, hb2⟩
      have b2 := b1.trans (hb2.mono (by omega))
      have hown2 := own_below hown1 hb2
      have Y2 := Y1.below hb2 hs1
      have hs2 := Y2.lt
      clear y0 d0 d1 d2 hown1 b1 Y1 hb2
      have HX : Hid (D.lack a y = if (D.known a y.node).gen < y.gen then [⟨y.node, y.gen, 0⟩] else if y.gen = (D.known a y.node).gen ∧ (D.known a y.node).ver < y.ver then [⟨y.node, y.gen, (D.known a y.node).ver⟩] else []) := Lib.hid rfl
      generalize D.known a y.node = x at HX
      simp only [dgv]
      have hown3 := hown2.alloc (.cells #[.int .i64 x.node, .int .i64 x.gen, .int .i64 x.ver] 34)
      have b3 := b2.alloc b2.size (.cells #[.int .i64 x.node, .int .i64 x.gen, .int .i64 x.ver] 34)
      have Y3 := Y2.alloc (.cells #[.int .i64 x.node, .int .i64 x.gen, .int .i64 x.ver] 34)
      have X3 := Box.new w2 #[.int .i64 x.node, .int .i64 x.gen, .int .i64 x.ver] 34
      have hbs3 := b3.size
      have HSZ : Hid ((w2.alloc (.cells #[.int .i64 x.node, .int .i64 x.gen, .int .i64 x.ver] 34)).heap.size = w2.heap.size + 1) := Lib.hid (by simp)
      have y0 := Y3.at 0 rfl
      have y1 := Y3.at 1 rfl
      have y2 := Y3.at 2 rfl
      have x1 := X3.at 1 rfl
      have x2 := X3.at 2 rfl
      clear hown2 b2 Y2
      by_cases h1 : x.gen < y.gen
      · have HE := Lib.hid (HX.out.trans (if_pos h1))
        have t1 : decide (x.gen < y.gen) = true := decide_eq_true h1
        clear HX
        go_wp2_with (at_builtin; refine pushF_law (f := dcl) (y := ⟨y.node, y.gen, 0⟩) dgT dcl_len dcl_one rfl (.tmp 25) (.tmp 31) rfl w.heap.size rfl rfl (by rw [HSZ.out]; rfl) hown3 (by omega) (by omega) hbs3 ?_; rintro A3 c3 w4 hown4 hb4 _)
        go_roundw
        case rel => exact ⟨k + 1, m + 1, A3, c3, by omega, rfl, by go_num, by omega, by rw [HM.out, HE.out]; exact hown4, b3.trans hb4⟩
        case measure => simp [intOf]; omega
      · have t1 : decide (x.gen < y.gen) = false := decide_eq_false h1
        by_cases h2 : y.gen = x.gen
        · have t2 : (y.gen == x.gen) = true := beq_iff_eq.2 h2
          by_cases h3 : x.ver < y.ver
          · have t3 : decide (x.ver < y.ver) = true := decide_eq_true h3
            have HE := Lib.hid (HX.out.trans ((if_neg h1).trans (if_pos ⟨h2, h3⟩)))
            clear HX h2
            go_wp2_with (at_builtin; refine pushF_law (f := dcl) (y := ⟨y.node, y.gen, x.ver⟩) dgT dcl_len dcl_one rfl (.tmp 46) (.tmp 54) rfl w.heap.size rfl rfl (by rw [HSZ.out]; rfl) hown3 (by omega) (by omega) hbs3 ?_; rintro A3 c3 w4 hown4 hb4 _)
            go_roundw
            case rel => exact ⟨k + 1, m + 1, A3, c3, by omega, rfl, by go_num, by omega, by rw [HM.out, HE.out]; exact hown4, b3.trans hb4⟩
            case measure => simp [intOf]; omega
          · have t3 : decide (x.ver < y.ver) = false := decide_eq_false h3
            have HE := Lib.hid (HX.out.trans ((if_neg h1).trans (if_neg fun h => h3 h.2)))
            clear HX h2
            go_wp2
            go_roundw
            case rel => exact ⟨k + 1, m, A1, c1, by omega, rfl, by go_num, by omega, by rw [HM.out, HE.out, List.append_nil]; exact hown3, b3⟩
            case measure => simp [intOf]; omega
        · have t2 : (y.gen == x.gen) = false := beq_eq_false_iff_ne.2 h2
          have HE := Lib.hid (HX.out.trans ((if_neg h1).trans (if_neg fun h => h2 h.1)))
          clear HX h2
          go_wp2
          go_roundw
          case rel => exact ⟨k + 1, m, A1, c1, by omega, rfl, by go_num, by omega, by rw [HM.out, HE.out, List.append_nil]; exact hown3, b3⟩
          case measure => simp [intOf]; omega
    · obtain rfl : k = n' := by omega
      have htk : b.take k = b := List.take_of_length_le (by have := HL.out; omega)
      rw [htk] at hown
      have HO := Lib.hid hown
      clear htk hown
      go_wp2
      go_ret
      exact ⟨A1, m, c1, rfl, HO.out, hbel⟩

set_option maxHeartbeats 2000000 in
set_option maxRecDepth 20000 in
theorem dof_any0 (U : Vw) (w : World) (h : VRd w U) (hn : U.n ≤ 1000) (hf : VFit U) :
    Calls Try.prog 15 #[vval U] w (MadeD w (D.of U.view)) := by
  obtain ⟨l, A, n, c⟩ := U
  have hl := h.len
  simp only at hn hl hf
  have HL := Lib.hid hl
  have HF := Lib.hid hf
  clear hl hf
  simp only [vval]
  go_enter Try.func15, Try.ntmps15
  go_wp2_with (at_make; refine make0_law dgT rfl _ _ rfl w.heap.size rfl rfl (by omega) (by omega) (by omega) (Nat.le_refl _) ?_; intro A0 c0 w0 hown0 hg0)
  have hb0 : Below w.heap.size w w0 := (Below.refl _ _).grown hg0 (Nat.le_refl _) (fun k hk => by cases hk)
  clear hg0
  go_wp2
  go_loopw [3, 11] (fun v i wr => ∃ k A1 c1, k ≤ n ∧ v = .slice A1 k c1 ∧ i = .int .i64 k ∧ wr.ownsRow w.heap.size 34 3 (.slice A1 k c1) k (FC dcl (D.of ((l.take k).map Nv.nm))) ∧ Below w.heap.size w wr) (fun _ i _ => n - (intOf i).toNat)
  case atStart => exact ⟨0, A0, c0, by omega, rfl, rfl, hown0, hb0⟩
  case round =>
    obtain ⟨k, A1, c1, hk, rfl, rfl, hown, hbel⟩ := hrel
    have hbs := hbel.size
    by_cases hlt : k < n
    · obtain ⟨b, o, x, e1, hb, hx, hsr, d0, d1, d2, d3⟩ := (h.belowH hbel).at hlt
      simp only at e1 hx
      subst e1
      have hk0 : (0 : Int) ≤ (k : Int) := by omega
      have HTK : Hid (D.of ((l.take (k + 1)).map Nv.nm) = D.of ((l.take k).map Nv.nm) ++ [⟨x.node, x.v.s.gen, S.top x.v.s⟩]) := Lib.hid (by rw [take_more hx, List.map_append]; unfold D.of; rw [List.map_append]; rfl)
      have hfx := HF.out x (List.mem_of_getElem? hx)
      have hs1 := hsr.allocH (.cells #[.int .i64 x.node, .int .i64 x.v.s.gen, .int .i64 x.v.s.beat, .slice x.v.A x.v.n x.v.c] 39)
      have hown1 := hown.alloc (.cells #[.int .i64 x.node, .int .i64 x.v.s.gen, .int .i64 x.v.s.beat, .slice x.v.A x.v.n x.v.c] 39)
      have b1 := hbel.alloc hbs (.cells #[.int .i64 x.node, .int .i64 x.v.s.gen, .int .i64 x.v.s.beat, .slice x.v.A x.v.n x.v.c] 39)
      have X1 := Box.new wr #[.int .i64 x.node, .int .i64 x.v.s.gen, .int .i64 x.v.s.beat, .slice x.v.A x.v.n x.v.c] 39
      have hs1' : wr.heap.size < (wr.alloc (.cells #[.int .i64 x.node, .int .i64 x.v.s.gen, .int .i64 x.v.s.beat, .slice x.v.A x.v.n x.v.c] 39)).heap.size := by simp
      have HNE : Hid ((Value.slice A1 k c1).ownBlock ≠ some wr.heap.size) := Lib.hid fun e => by have := (hown.lt _ e).2; omega
      clear hx hsr hown hbel
      go_wp2
      generalize wr.alloc (.cells #[.int .i64 x.node, .int .i64 x.v.s.gen, .int .i64 x.v.s.beat, .slice x.v.A x.v.n x.v.c] 39) = w1 at *
      have y0 := X1.at 0 rfl
      have y1 := X1.at 1 rfl
      have y2 := X1.at 2 rfl
      have y3 := X1.at 3 rfl
      refine wp_region_held_drew (S := (fun w' => w'.cell? ⟨wr.heap.size, 0, none⟩ = some (.int .i64 x.node) ∧ w'.cell? ⟨wr.heap.size, 1, none⟩ = some (.int .i64 x.v.s.gen) ∧ w'.cell? ⟨wr.heap.size, 2, none⟩ = some (.int .i64 x.v.s.beat) ∧ w'.cell? ⟨wr.heap.size, 3, none⟩ = some (.slice x.v.A x.v.n x.v.c))) (by kernel_rfl) (by exact ⟨y0, y1, y2, y3⟩) (fun hHeld0 => ?_)
      refine wpAnyH_take (i := 0) (oi := ⟨some 15, _, _, _, _, _⟩) (v := ?_) rfl (by kernel_rfl) (by kernel_rfl) (by kernel_rfl) (fun _ _ _ h => h) (Or.inl ⟨by rfl, ?_⟩) hHeld0 ?_
      rotate_left
      · (intro w' hSw; (try dsimp only at hSw); go_simp; all_goals (with_reducible rfl))
      try simp only [Act.put, List.setIfInBounds_toArray, List.set_cons_zero, List.set_cons_succ]
      refine wpAnyH_take (i := 1) (oi := ⟨some 16, _, _, _, _, _⟩) (v := ?_) rfl (by kernel_rfl) (by kernel_rfl) (by kernel_rfl) (fun _ _ _ h => h) (Or.inl ⟨by rfl, ?_⟩) hHeld0 ?_
      rotate_left
      · (intro w' hSw; (try dsimp only at hSw); go_simp; all_goals (with_reducible rfl))
      try simp only [Act.put, List.setIfInBounds_toArray, List.set_cons_zero, List.set_cons_succ]
      refine wpAnyH_take (i := 2) (oi := ⟨some 17, _, _, _, _, _⟩) (v := ?_) rfl (by kernel_rfl) (by kernel_rfl) (by kernel_rfl) (fun _ _ _ h => h) (Or.inl ⟨by rfl, ?_⟩) hHeld0 ?_
      rotate_left
      · (intro w' hSw; (try dsimp only at hSw); go_simp; all_goals (with_reducible rfl))
      try simp only [Act.put, List.setIfInBounds_toArray, List.set_cons_zero, List.set_cons_succ]
      refine wpAnyH_take (i := 3) (oi := ⟨some 18, _, _, _, _, _⟩) (v := ?_) rfl (by kernel_rfl) (by kernel_rfl) (by kernel_rfl) (fun _ _ _ h => h) (Or.inl ⟨by rfl, ?_⟩) hHeld0 ?_
      rotate_left
      · (intro w' hSw; (try dsimp only at hSw); go_simp; all_goals (with_reducible rfl))
      try simp only [Act.put, List.setIfInBounds_toArray, List.set_cons_zero, List.set_cons_succ]
      refine wpAnyH_take (i := 4) (oi := ⟨some 19, _, _, _, _, _⟩) (v := ?_) rfl (by kernel_rfl) (by kernel_rfl) (by kernel_rfl) (fun _ _ _ h => h) (Or.inl ⟨by rfl, ?_⟩) hHeld0 ?_
      rotate_left
      · (intro w' hSw; (try dsimp only at hSw); go_simp; all_goals (with_reducible rfl))
      try simp only [Act.put, List.setIfInBounds_toArray, List.set_cons_zero, List.set_cons_succ]
      refine wpAnyH_take (i := 5) (oi := ⟨some 20, _, _, _, _, _⟩) (v := ?_) rfl (by kernel_rfl) (by kernel_rfl) (by kernel_rfl) (fun _ _ _ h => h) (Or.inl ⟨by rfl, ?_⟩) hHeld0 ?_
      rotate_left
      · (intro w' hSw; (try dsimp only at hSw); go_simp; all_goals (with_reducible rfl))
      try simp only [Act.put, List.setIfInBounds_toArray, List.set_cons_zero, List.set_cons_succ]
      refine wpAnyH_take (i := 6) (oi := ⟨some 21, _, _, _, _, _⟩) (v := ?_) rfl (by kernel_rfl) (by kernel_rfl) (by kernel_rfl) (fun _ _ _ h => h) (Or.inl ⟨by rfl, ?_⟩) hHeld0 ?_
      rotate_left
      · (intro w' hSw; (try dsimp only at hSw); go_simp; all_goals (with_reducible rfl))
      try simp only [Act.put, List.setIfInBounds_toArray, List.set_cons_zero, List.set_cons_succ]
      refine wpAnyH_take (i := 7) (oi := ⟨some 22, _, _, _, _, _⟩) (v := ?_) rfl (by kernel_rfl) (by kernel_rfl) (by kernel_rfl) (fun _ _ _ h => h) (Or.inl ⟨by rfl, ?_⟩) hHeld0 ?_
      rotate_left
      · (intro w' hSw; (try dsimp only at hSw); go_simp; all_goals (with_reducible rfl))
      try simp only [Act.put, List.setIfInBounds_toArray, List.set_cons_zero, List.set_cons_succ]
      refine wpAnyH_ready (rs := [8]) (by kernel_rfl) (by simp) (AllReadyH.cons (o := ⟨some 23, _, _, _, _, _⟩) rfl (fun K hK => ?_) AllReadyH.nil)
      go_simp
      (refine (stop_any x.v _ hs1.drew (by omega)).mono ?_; rintro e w2 ⟨rfl, hb2⟩; have hb2' : Below w1.heap.size w1 w2 := (Below.refl _ _).drew.trans hb2; have hown2 := own_below hown1 hb2'; have X2 := X1.below hb2' hs1'; replace y0 := X2.at 0 rfl; replace y1 := X2.at 1 rfl; replace y2 := X2.at 2 rfl; replace y3 := X2.at 3 rfl; have hs2 := hb2'.size)
      go_simp
      refine hK.out _ _ (by exact ⟨y0, y1, y2, y3⟩) (fun hHeld1 => ?_)
      clear hK hHeld0 K
      try simp only [Act.put, List.setIfInBounds_toArray, List.set_cons_zero, List.set_cons_succ]
      refine wpAnyH_take (i := 9) (oi := ⟨some 24, _, _, _, _, _⟩) (v := ?_) rfl (by kernel_rfl) (by kernel_rfl) (by kernel_rfl) (fun _ _ _ h => h) (Or.inl ⟨by rfl, ?_⟩) hHeld1 ?_
      rotate_left
      · (intro w' hSw; (try dsimp only at hSw); go_simp; all_goals (with_reducible rfl))
      try simp only [Act.put, List.setIfInBounds_toArray, List.set_cons_zero, List.set_cons_succ]
      refine wpAnyH_ready (rs := [10]) (by kernel_rfl) (by simp) (AllReadyH.cons (o := ⟨some 25, _, _, _, _, _⟩) rfl (fun K hK => ?_) AllReadyH.nil)
      go_simp
      (have Z := X2.alloc (.cells #[.int .i64 x.node, .int .i64 x.v.s.gen, .int .i64 (S.top x.v.s)] 34); replace y0 := Z.at 0 rfl; replace y1 := Z.at 1 rfl; replace y2 := Z.at 2 rfl; replace y3 := Z.at 3 rfl)
      go_simp
      refine hK.out _ _ (by exact ⟨y0, y1, y2, y3⟩) (fun hHeld2 => ?_)
      clear hK hHeld1 K
      try simp only [Act.put, List.setIfInBounds_toArray, List.set_cons_zero, List.set_cons_succ]
      refine wpAnyH_ready (rs := [11]) (by kernel_rfl) (by simp) (AllReadyH.cons (o := ⟨some 26, _, _, _, _, _⟩) rfl (fun K hK => ?_) AllReadyH.nil)
      (refine pushF_step (f := dcl) (y := ⟨x.node, x.v.s.gen, S.top x.v.s⟩) dgT dcl_len dcl_one rfl (.tmp 15) (.tmp 25) (by rfl) w.heap.size rfl (by rfl) (by rfl) hown2 (by omega) (by omega) (by omega) ?_; rintro A3 c3' w3 hown4 hb3 hkeep; replace y0 := keeps_box hkeep X2 HNE.out 0 rfl; replace y1 := keeps_box hkeep X2 HNE.out 1 rfl; replace y2 := keeps_box hkeep X2 HNE.out 2 rfl; replace y3 := keeps_box hkeep X2 HNE.out 3 rfl)
      go_simp
      refine hK.out _ _ (by exact ⟨y0, y1, y2, y3⟩) (fun hHeld3 => ?_)
      clear hK hHeld2 K
      try simp only [Act.put, List.setIfInBounds_toArray, List.set_cons_zero, List.set_cons_succ]
      refine wpAnyH_take (i := 12) (oi := ⟨some 3, _, _, _, _, _⟩) (v := ?_) rfl (by kernel_rfl) (by kernel_rfl) (by kernel_rfl) (fun _ _ _ h => h) (Or.inl ⟨by rfl, ?_⟩) hHeld3 ?_
      rotate_left
      · (intro w' hSw; (try dsimp only at hSw); go_simp; all_goals (with_reducible rfl))
      try simp only [Act.put, List.setIfInBounds_toArray, List.set_cons_zero, List.set_cons_succ]
      refine wpAnyH_done (by kernel_rfl) ?_ _
      go_wp2
      go_roundw
      case rel => exact ⟨k + 1, A3, c3', by omega, rfl, by go_num, by rw [HTK.out]; exact hown4, (b1.trans (hb2'.mono (by omega))).trans hb3⟩
      case measure => simp [intOf]; omega
    · obtain rfl : k = n := by omega
      have htk : l.take k = l := List.take_of_length_le (by have := HL.out; omega)
      rw [htk] at hown
      have HO := Lib.hid hown
      clear htk hown
      go_wp2
      go_ret
      exact ⟨A1, k, c1, rfl, HO.out, hbel⟩
end Go.Proofs.Ytoemefoppkgfaaa
