/- LLaw4 (merged). -/
import Derived.Test.YtkabkpeamggnnaaJMath
import Derived.Test.YtkabkpeamggnnaaJLAlive
import Derived.Test.YtkabkpeamggnnaaJDRef
import Derived.Test.YtkabkpeamggnnaaJLPart
namespace Go.Proofs.Ytkabkpeamggnnaa
set_option linter.unusedVariables false
set_option linter.unusedSimpArgs false
open Go.RowKit

set_option maxHeartbeats 8000000 in
set_option maxRecDepth 100000 in
theorem law_DeltaWhole (v0 v1 : Vw) (W : World) (t0 : VIn W v0) (t1 : VIn W v1) :
    Calls Try.prog 5 #[vval v0, vval v1] W fun e w' => e = .returned (.bool true) ∧ Below W.heap.size W w' := by
  have R0 := t0.1
  have HK0 : Hid (v0.n * 48 ≤ 140737488351232 ∧ ∀ x ∈ v0.l, x.v.n * 32 ≤ 140737488351232 ∧ ∀ y ∈ x.v.s.apps, y.val.length ≤ 140737488351232) := Lib.hid ⟨t0.2.2.1, fun x hx => (t0.2.2.2 x hx).1⟩
  clear t0
  have R1 := t1.1
  have HK1 : Hid (v1.n * 48 ≤ 140737488351232 ∧ ∀ x ∈ v1.l, x.v.n * 32 ≤ 140737488351232 ∧ ∀ y ∈ x.v.s.apps, y.val.length ≤ 140737488351232) := Lib.hid ⟨t1.2.2.1, fun x hx => (t1.2.2.2 x hx).1⟩
  clear t1
  simp only [vval]
  have b := Below.refl W.heap.size W
  go_enter Try.func5, Try.ntmps5
  go_wp2_with fail
  refine (alive_any _).mono ?_
  rintro e w2 ⟨rfl, hb⟩
  replace R0 := R0.belowH hb
  replace R1 := R1.belowH hb
  replace b := b.trans (hb.mono b.size)
  clear hb
  go_wp2_with fail
  refine (rvgreat_any v0 _ R0 HK0.out.1 HK0.out.2).mono ?_
  rintro e w3 ⟨rfl, hb⟩
  replace R0 := R0.belowH hb
  replace R1 := R1.belowH hb
  replace b := b.trans (hb.mono b.size)
  clear hb
  rcases hgr : vgreatB v0.l
  · skip
    have HG0 := Lib.hid (vgreat_small R0 hgr)
    clear hgr
    go_wp2_with fail
    refine (rvgreat_any v1 _ R1 HK1.out.1 HK1.out.2).mono ?_
    rintro e w4 ⟨rfl, hb⟩
    replace R0 := R0.belowH hb
    replace R1 := R1.belowH hb
    replace b := b.trans (hb.mono b.size)
    clear hb
    rcases hgr : vgreatB v1.l
    · skip
      have HG1 := Lib.hid (vgreat_small R1 hgr)
      clear hgr
      go_wp2_with fail
      refine (rvright_any v0  _ R0 (by have hq := HG0.out.1; omega) HG0.out.2).mono ?_
      rintro e w5 ⟨rfl, hb⟩
      replace R0 := R0.belowH hb
      replace R1 := R1.belowH hb
      replace b := b.trans (hb.mono b.size)
      clear hb
      rcases hr0 : vrightB v0.view
      · go_wp2
        go_ret
        exact ⟨rfl, b⟩
      · skip
        have HR0 := Lib.hid (vrightB_out hr0)
        clear hr0
        go_wp2_with fail
        refine (rvright_any v1  _ R1 (by have hq := HG1.out.1; omega) HG1.out.2).mono ?_
        rintro e w6 ⟨rfl, hb⟩
        replace R0 := R0.belowH hb
        replace R1 := R1.belowH hb
        replace b := b.trans (hb.mono b.size)
        clear hb
        rcases hr1 : vrightB v1.view
        · go_wp2
          go_ret
          exact ⟨rfl, b⟩
        · skip
          have HR1 := Lib.hid (vrightB_out hr1)
          clear hr1
          obtain ⟨l0, A0, n0, c0⟩ := v0
          have HN0 : Hid (n0 ≤ 8) := Lib.hid (right_n R0 HR0.out)
          have HF0 := Lib.hid (right_fitR R0 HR0.out)
          have HL0 : Hid (l0.length = n0) := Lib.hid R0.len
          clear HG0 HG1
          simp only [vval]
          go_wp2
          go_loopw [5] (fun i wr => ∃ k : Nat, k ≤ n0 ∧ i = .int .i64 k ∧ (∀ z ∈ l0.take k, ∀ y, V.get v1.view z.node = some y → L.part z.v.s y) ∧ Below w6.heap.size w6 wr) (fun i _ => n0 - (intOf i).toNat)
          case atStart => exact ⟨0, by omega, rfl, by simp, Below.refl _ _⟩
          case round =>
            obtain ⟨k, hk, rfl, hno, hb⟩ := hrel
            have hb0 := Lib.hid hb
            have HNO := Lib.hid hno
            clear hno
            replace R0 := R0.belowH hb
            replace R1 := R1.belowH hb
            replace b := b.trans (hb.mono b.size)
            clear hb
            have hn08 := HN0.out
            by_cases hlt : k < n0
            · skip
              obtain ⟨b1, o1, x, e1, hb1, hx, hsx, d0, d1, d2, d3⟩ := R0.at hlt
              simp only at e1 hx
              subst e1
              have hk0 : (0 : Int) ≤ (k : Int) := by omega
              have HX := Lib.hid hx
              have HFX := Lib.hid (HF0.out x (List.mem_of_getElem? hx))
              have HRX : Hid (S.right x.v.s) := Lib.hid (HR0.out.1 x.nm (List.mem_map.2 ⟨x, List.mem_of_getElem? hx, rfl⟩)).2.2
              clear hx
              go_wp2_with fail
              refine (rvget_any v1 x.node _ R1 (by have hq := right_n R1 HR1.out; omega) (right_fitR R1 HR1.out)).mono ?_
              rintro e wg ⟨⟨ss, As, ns, cs⟩, rfl, hs, Rs, hbg⟩
              simp only at hs
              have HS := Lib.hid hs
              have hns : ns ≤ 4000 := by
                have hq : ss.apps.length = ns := Rs.len
                have hq2 := vget_short R1 (right_fitR R1 HR1.out) (V.get v1.view x.node) rfl
                rw [← hs] at hq2
                omega
              clear hs
              simp only [sv]
              have SB := Box.new wg #[.int .i64 ss.gen, .int .i64 ss.beat, .slice As ns cs] 40
              have hb3 : Below wr.heap.size wr (wg.alloc (.cells #[.int .i64 ss.gen, .int .i64 ss.beat, .slice As ns cs] 40)) := hbg.alloc hbg.size (.cells #[.int .i64 ss.gen, .int .i64 ss.beat, .slice As ns cs] 40)
              have Rs3 := Rs.allocH (.cells #[.int .i64 ss.gen, .int .i64 ss.beat, .slice As ns cs] 40)
              have hsx3 := hsx.belowH hb3
              have hls := SB.lt
              replace d0 := (hb3.cell (p := ⟨b1, o1 + k * 4, none⟩) hb1).trans d0
              replace d1 := (hb3.cell (p := ⟨b1, o1 + k * 4 + 1, none⟩) hb1).trans d1
              replace d2 := (hb3.cell (p := ⟨b1, o1 + k * 4 + 2, none⟩) hb1).trans d2
              replace d3 := (hb3.cell (p := ⟨b1, o1 + k * 4 + 3, none⟩) hb1).trans d3
              have hb1' : b1 < (wg.alloc (.cells #[.int .i64 ss.gen, .int .i64 ss.beat, .slice As ns cs] 40)).heap.size := by have := hb3.size; omega
              clear Rs hsx hbg
              rcases hg : V.get v1.view x.node with _ | so
              · have HGN := Lib.hid hg
                clear hg
                simp only [Option.isSome_none]
                go_wp2
                generalize wg.alloc (.cells #[.int .i64 ss.gen, .int .i64 ss.beat, .slice As ns cs] 40) = w3 at *
                have s0 := SB.at 0 rfl
                have s1 := SB.at 1 rfl
                have s2 := SB.at 2 rfl
                refine wp_region_held_drew (S := (fun w' => (w'.cell? ⟨b1, o1 + k * 4 + 1, none⟩ = some (.int .i64 x.v.s.gen) ∧ w'.cell? ⟨b1, o1 + k * 4 + 2, none⟩ = some (.int .i64 x.v.s.beat) ∧ w'.cell? ⟨b1, o1 + k * 4 + 3, none⟩ = some (.slice x.v.A x.v.n x.v.c)) ∧ w'.cell? ⟨wg.heap.size, 0, none⟩ = some (.int .i64 ss.gen) ∧ w'.cell? ⟨wg.heap.size, 1, none⟩ = some (.int .i64 ss.beat) ∧ w'.cell? ⟨wg.heap.size, 2, none⟩ = some (.slice As ns cs))) (by kernel_rfl) (by exact ⟨⟨d1, d2, d3⟩, s0, s1, s2⟩) (fun hHeld0 => ?_)
                refine wpAnyH_take (i := 0) (oi := ⟨some 48, _, _, _, _, _⟩) (v := ?_) rfl (by kernel_rfl) (by kernel_rfl) (by kernel_rfl) (fun _ _ _ h => h) (Or.inl ⟨by rfl, ?_⟩) hHeld0 ?_
                rotate_left
                · (intro w' hSw; (try dsimp only at hSw); go_simp; all_goals (with_reducible rfl))
                try simp only [Act.put, sA, sB, sC]
                refine wpAnyH_take (i := 1) (oi := ⟨some 49, _, _, _, _, _⟩) (v := ?_) rfl (by kernel_rfl) (by kernel_rfl) (by kernel_rfl) (fun _ _ _ h => h) (Or.inl ⟨by rfl, ?_⟩) hHeld0 ?_
                rotate_left
                · (intro w' hSw; (try dsimp only at hSw); go_simp; all_goals (with_reducible rfl))
                try simp only [Act.put, sA, sB, sC]
                refine wpAnyH_take (i := 2) (oi := ⟨some 50, _, _, _, _, _⟩) (v := undef) rfl (by kernel_rfl) (by kernel_rfl) (by kernel_rfl) (fun _ _ _ h => h) (Or.inr ⟨by rfl, rfl⟩) hHeld0 ?_
                try simp only [Act.put, sA, sB, sC]
                refine wpAnyH_take (i := 3) (oi := ⟨some 51, _, _, _, _, _⟩) (v := undef) rfl (by kernel_rfl) (by kernel_rfl) (by kernel_rfl) (fun _ _ _ h => h) (Or.inr ⟨by rfl, rfl⟩) hHeld0 ?_
                try simp only [Act.put, sA, sB, sC]
                refine wpAnyH_take (i := 4) (oi := ⟨some 52, _, _, _, _, _⟩) (v := undef) rfl (by kernel_rfl) (by kernel_rfl) (by kernel_rfl) (fun _ _ _ h => h) (Or.inr ⟨by rfl, rfl⟩) hHeld0 ?_
                try simp only [Act.put, sA, sB, sC]
                refine wpAnyH_take (i := 5) (oi := ⟨some 53, _, _, _, _, _⟩) (v := undef) rfl (by kernel_rfl) (by kernel_rfl) (by kernel_rfl) (fun _ _ _ h => h) (Or.inr ⟨by rfl, rfl⟩) hHeld0 ?_
                try simp only [Act.put, sA, sB, sC]
                refine wpAnyH_take (i := 6) (oi := ⟨some 54, _, _, _, _, _⟩) (v := undef) rfl (by kernel_rfl) (by kernel_rfl) (by kernel_rfl) (fun _ _ _ h => h) (Or.inr ⟨by rfl, rfl⟩) hHeld0 ?_
                try simp only [Act.put, sA, sB, sC]
                refine wpAnyH_take (i := 7) (oi := ⟨some 55, _, _, _, _, _⟩) (v := undef) rfl (by kernel_rfl) (by kernel_rfl) (by kernel_rfl) (fun _ _ _ h => h) (Or.inr ⟨by rfl, rfl⟩) hHeld0 ?_
                try simp only [Act.put, sA, sB, sC]
                refine wpAnyH_take (i := 8) (oi := ⟨some 56, _, _, _, _, _⟩) (v := undef) rfl (by kernel_rfl) (by kernel_rfl) (by kernel_rfl) (fun _ _ _ h => h) (Or.inr ⟨by rfl, rfl⟩) hHeld0 ?_
                try simp only [Act.put, sA, sB, sC]
                refine wpAnyH_take (i := 9) (oi := ⟨some 57, _, _, _, _, _⟩) (v := undef) rfl (by kernel_rfl) (by kernel_rfl) (by kernel_rfl) (fun _ _ _ h => h) (Or.inr ⟨by rfl, rfl⟩) hHeld0 ?_
                try simp only [Act.put, sA, sB, sC]
                refine wpAnyH_take (i := 10) (oi := ⟨some 58, _, _, _, _, _⟩) (v := ?_) rfl (by kernel_rfl) (by kernel_rfl) (by kernel_rfl) (fun _ _ _ h => h) (Or.inl ⟨by rfl, ?_⟩) hHeld0 ?_
                rotate_left
                · (intro w' hSw; (try dsimp only at hSw); go_simp; all_goals (with_reducible rfl))
                try simp only [Act.put, sA, sB, sC]
                refine wpAnyH_done (by kernel_rfl) ?_ _
                go_wp2
                go_roundw
                case rel =>
                  refine ⟨k + 1, by omega, by go_num, fun z hz y hy => ?_, hb0.out.trans (hb3.drew.mono hb0.out.size)⟩
                  rw [take_more HX.out] at hz
                  rcases List.mem_append.1 hz with hz | hz
                  · exact HNO.out z hz y hy
                  · obtain rfl : z = x := by simpa using hz
                    rw [HGN.out] at hy
                    cases hy
                case measure => simp [intOf]; omega
              · obtain rfl : ss = so := by have hq := HS.out; rw [hg] at hq; exact hq
                have HRS : Hid (S.right ss) := Lib.hid (HR1.out.1 _ (V.get_mem hg)).2.2
                have HGS := Lib.hid hg
                clear hg
                simp only [Option.isSome_some]
                go_wp2
                generalize wg.alloc (.cells #[.int .i64 ss.gen, .int .i64 ss.beat, .slice As ns cs] 40) = w3 at *
                have s0 := SB.at 0 rfl
                have s1 := SB.at 1 rfl
                have s2 := SB.at 2 rfl
                refine wp_region_held_drew (S := (fun w' => (w'.cell? ⟨b1, o1 + k * 4 + 1, none⟩ = some (.int .i64 x.v.s.gen) ∧ w'.cell? ⟨b1, o1 + k * 4 + 2, none⟩ = some (.int .i64 x.v.s.beat) ∧ w'.cell? ⟨b1, o1 + k * 4 + 3, none⟩ = some (.slice x.v.A x.v.n x.v.c)) ∧ w'.cell? ⟨wg.heap.size, 0, none⟩ = some (.int .i64 ss.gen) ∧ w'.cell? ⟨wg.heap.size, 1, none⟩ = some (.int .i64 ss.beat) ∧ w'.cell? ⟨wg.heap.size, 2, none⟩ = some (.slice As ns cs))) (by kernel_rfl) (by exact ⟨⟨d1, d2, d3⟩, s0, s1, s2⟩) (fun hHeld0 => ?_)
                refine wpAnyH_take (i := 0) (oi := ⟨some 48, _, _, _, _, _⟩) (v := ?_) rfl (by kernel_rfl) (by kernel_rfl) (by kernel_rfl) (fun _ _ _ h => h) (Or.inl ⟨by rfl, ?_⟩) hHeld0 ?_
                rotate_left
                · (intro w' hSw; (try dsimp only at hSw); go_simp; all_goals (with_reducible rfl))
                try simp only [Act.put, sA, sB, sC]
                refine wpAnyH_take (i := 1) (oi := ⟨some 49, _, _, _, _, _⟩) (v := ?_) rfl (by kernel_rfl) (by kernel_rfl) (by kernel_rfl) (fun _ _ _ h => h) (Or.inl ⟨by rfl, ?_⟩) hHeld0 ?_
                rotate_left
                · (intro w' hSw; (try dsimp only at hSw); go_simp; all_goals (with_reducible rfl))
                try simp only [Act.put, sA, sB, sC]
                refine wpAnyH_take (i := 2) (oi := ⟨some 50, _, _, _, _, _⟩) (v := ?_) rfl (by kernel_rfl) (by kernel_rfl) (by kernel_rfl) (fun _ _ _ h => h) (Or.inl ⟨by rfl, ?_⟩) hHeld0 ?_
                rotate_left
                · (intro w' hSw; (try dsimp only at hSw); go_simp; all_goals (with_reducible rfl))
                try simp only [Act.put, sA, sB, sC]
                refine wpAnyH_take (i := 3) (oi := ⟨some 51, _, _, _, _, _⟩) (v := ?_) rfl (by kernel_rfl) (by kernel_rfl) (by kernel_rfl) (fun _ _ _ h => h) (Or.inl ⟨by rfl, ?_⟩) hHeld0 ?_
                rotate_left
                · (intro w' hSw; (try dsimp only at hSw); go_simp; all_goals (with_reducible rfl))
                try simp only [Act.put, sA, sB, sC]
                refine wpAnyH_take (i := 4) (oi := ⟨some 52, _, _, _, _, _⟩) (v := ?_) rfl (by kernel_rfl) (by kernel_rfl) (by kernel_rfl) (fun _ _ _ h => h) (Or.inl ⟨by rfl, ?_⟩) hHeld0 ?_
                rotate_left
                · (intro w' hSw; (try dsimp only at hSw); go_simp; all_goals (with_reducible rfl))
                try simp only [Act.put, sA, sB, sC]
                refine wpAnyH_take (i := 5) (oi := ⟨some 53, _, _, _, _, _⟩) (v := ?_) rfl (by kernel_rfl) (by kernel_rfl) (by kernel_rfl) (fun _ _ _ h => h) (Or.inl ⟨by rfl, ?_⟩) hHeld0 ?_
                rotate_left
                · (intro w' hSw; (try dsimp only at hSw); go_simp; all_goals (with_reducible rfl))
                try simp only [Act.put, sA, sB, sC]
                refine wpAnyH_take (i := 6) (oi := ⟨some 54, _, _, _, _, _⟩) (v := ?_) rfl (by kernel_rfl) (by kernel_rfl) (by kernel_rfl) (fun _ _ _ h => h) (Or.inl ⟨by rfl, ?_⟩) hHeld0 ?_
                rotate_left
                · (intro w' hSw; (try dsimp only at hSw); go_simp; all_goals (with_reducible rfl))
                try simp only [Act.put, sA, sB, sC]
                refine wpAnyH_take (i := 7) (oi := ⟨some 55, _, _, _, _, _⟩) (v := ?_) rfl (by kernel_rfl) (by kernel_rfl) (by kernel_rfl) (fun _ _ _ h => h) (Or.inl ⟨by rfl, ?_⟩) hHeld0 ?_
                rotate_left
                · (intro w' hSw; (try dsimp only at hSw); go_simp; all_goals (with_reducible rfl))
                try simp only [Act.put, sA, sB, sC]
                refine wpAnyH_ready (rs := [8]) (by kernel_rfl) (by simp) (AllReadyH.cons (o := ⟨some 56, _, _, _, _, _⟩) rfl (fun K hK => ?_) AllReadyH.nil)
                go_simp
                (refine (lpart_any x.v ⟨ss, As, ns, cs⟩ _ hsx3.drewH Rs3.drewH HFX.out (by show ns ≤ _; omega) (S.right_rise HRX.out) (S.right_rise HRS.out)).mono ?_; rintro e w4 ⟨⟨r, rfl, hrr⟩, hb4⟩; have HRR := Lib.hid hrr; clear hrr; have SB4 := SB.drew.below hb4 hls; replace s0 := SB4.at 0 rfl; replace s1 := SB4.at 1 rfl; replace s2 := SB4.at 2 rfl; replace d1 := (hb4.cell (p := ⟨b1, o1 + k * 4 + 1, none⟩) hb1').trans d1; replace d2 := (hb4.cell (p := ⟨b1, o1 + k * 4 + 2, none⟩) hb1').trans d2; replace d3 := (hb4.cell (p := ⟨b1, o1 + k * 4 + 3, none⟩) hb1').trans d3)
                go_simp
                refine hK.out _ _ (by exact ⟨⟨d1, d2, d3⟩, s0, s1, s2⟩) (fun hHeld1 => ?_)
                clear hK hHeld0 K
                try simp only [Act.put, sA, sB, sC]
                refine wpAnyH_take (i := 9) (oi := ⟨some 57, _, _, _, _, _⟩) (v := ?_) rfl (by kernel_rfl) (by kernel_rfl) (by kernel_rfl) (fun _ _ _ h => h) (Or.inl ⟨by rfl, ?_⟩) hHeld1 ?_
                rotate_left
                · (intro w' hSw; (try dsimp only at hSw); go_simp; all_goals (with_reducible rfl))
                try simp only [Act.put, sA, sB, sC]
                refine wpAnyH_take (i := 10) (oi := ⟨some 58, _, _, _, _, _⟩) (v := ?_) rfl (by kernel_rfl) (by kernel_rfl) (by kernel_rfl) (fun _ _ _ h => h) (Or.inl ⟨by rfl, ?_⟩) hHeld1 ?_
                rotate_left
                · (intro w' hSw; (try dsimp only at hSw); go_simp; all_goals (with_reducible rfl))
                try simp only [Act.put, sA, sB, sC]
                refine wpAnyH_done (by kernel_rfl) ?_ _
                rcases r with _ | _
                · go_wp2
                  go_ret
                  exact ⟨rfl, b.trans ((hb3.drew.trans (hb4.mono (show wr.heap.size ≤ w3.drew.heap.size from hb3.size))).mono b.size)⟩
                · go_wp2
                  go_roundw
                  case rel =>
                    refine ⟨k + 1, by omega, by go_num, fun z hz y hy => ?_, hb0.out.trans ((hb3.drew.trans (hb4.mono (show wr.heap.size ≤ w3.drew.heap.size from hb3.size))).mono hb0.out.size)⟩
                    rw [take_more HX.out] at hz
                    rcases List.mem_append.1 hz with hz | hz
                    · exact HNO.out z hz y hy
                    · obtain rfl : z = x := by simpa using hz
                      rw [HGS.out] at hy
                      injection hy with hy
                      rw [← hy]
                      exact HRR.out rfl
                  case measure => simp [intOf]; omega
            · skip
              have HP : Hid (∀ k x y, V.get (Vw.view ⟨l0, A0, n0, c0⟩) k = some x → V.get v1.view k = some y → L.part x y) := Lib.hid (fun j x y h1 h2 => by
                obtain ⟨z, hz, hzn⟩ := List.mem_map.1 (V.get_mem h1)
                have hq := HNO.out z (by rw [List.take_of_length_le (by have := HL0.out; omega)]; exact hz)
                unfold Nv.nm at hzn
                injection hzn with h3 h4
                rw [h3, h4] at hq
                exact hq y h2)
              clear HNO
              go_wp2_with fail
              refine (rdof_any v1  _ R1 (by have hq := right_n R1 HR1.out; omega) (right_fitR R1 HR1.out)).mono ?_
              rintro e w7 ⟨Ao, no, co, rfl, hown, hb⟩
              have Ro : DRd w7 Ao no (D.of v1.view) := Rd.of_own hown
              clear hown
              replace R0 := R0.belowH hb
              replace R1 := R1.belowH hb
              replace b := b.trans (hb.mono b.size)
              clear hb
              have bdo : no ≤ 8 := by have hq := Ro.len; have hq2 := right_n R1 HR1.out; have hq3 := R1.viewlen; unfold D.of at hq; rw [List.length_map] at hq; omega
              go_wp2_with fail
              refine (rdcompare_any ⟨l0, A0, n0, c0⟩ (D.of v1.view) Ao no co _ R0 Ro (by have hq := right_n R0 HR0.out; omega) (by omega) (right_fitR R0 HR0.out)).mono ?_
              rintro e w8 ⟨Ax, nx, cx, Ay, ny, cy, rfl, hown, hown2, hb⟩
              have Rx : DRd w8 Ax nx (D.wants (Vw.view ⟨l0, A0, n0, c0⟩) (D.of v1.view) 8) := Rd.of_own hown
              have Ry : DRd w8 Ay ny (D.gives (Vw.view ⟨l0, A0, n0, c0⟩) (D.of v1.view) 8) := Rd.of_own hown2
              clear hown hown2
              replace R0 := R0.belowH hb
              replace R1 := R1.belowH hb
              replace Ro := Ro.belowH hb
              replace b := b.trans (hb.mono b.size)
              clear hb
              have bdx : nx ≤ 8 := by have hq := Rx.len; have := D.wants_len ((⟨l0, A0, n0, c0⟩ : Vw).view) ((D.of v1.view)) 8; have := D.gives_len ((⟨l0, A0, n0, c0⟩ : Vw).view) ((D.of v1.view)) 8; omega
              have bdy : ny ≤ 8 := by have hq := Ry.len; have := D.wants_len ((⟨l0, A0, n0, c0⟩ : Vw).view) ((D.of v1.view)) 8; have := D.gives_len ((⟨l0, A0, n0, c0⟩ : Vw).view) ((D.of v1.view)) 8; omega
              go_wp2_with fail
              refine (lcpick_any v1 (D.wants (Vw.view ⟨l0, A0, n0, c0⟩) (D.of v1.view) 8) Ax nx cx _ R1 Rx (by have hq := right_n R1 HR1.out; omega) (by omega) (right_fitR R1 HR1.out)).mono ?_
              rintro e w9 ⟨Up, rfl, hv, hown, hb⟩
              have Hp : Hid (Up.dls = L.pick v1.view (D.wants (Vw.view ⟨l0, A0, n0, c0⟩) (D.of v1.view) 8)) := Lib.hid hv
              have Rp := hown.lrd
              clear hv hown
              replace R0 := R0.belowH hb
              replace R1 := R1.belowH hb
              replace Ro := Ro.belowH hb
              replace Rx := Rx.belowH hb
              replace Ry := Ry.belowH hb
              replace b := b.trans (hb.mono b.size)
              clear hb
              have HRp : Hid (L.right Up.dls) := Lib.hid (by rw [Hp.out]; exact L.pick_right HR1.out (D.wants_right HR0.out (D.of_right HR1.out) (Nat.le_refl _)))
              simp only [lval]
              go_wp2_with fail
              refine (lcapply_any ⟨l0, A0, n0, c0⟩ Up _ R0 Rp HR0.out HRp.out (by have hq := right_nL Rp HRp.out; omega)).mono ?_
              rintro e w10 ⟨Uc, Acn, ncn, ccn, rfl, hv, Rc, Rcn, hb⟩
              have Hc : Hid (Uc.view = (L.apply (Vw.view ⟨l0, A0, n0, c0⟩) Up.dls).1) := Lib.hid hv
              clear hv
              replace R0 := R0.belowH hb
              replace R1 := R1.belowH hb
              replace Ro := Ro.belowH hb
              replace Rx := Rx.belowH hb
              replace Ry := Ry.belowH hb
              replace Rp := Rp.belowH hb
              replace b := b.trans (hb.mono b.size)
              clear hb
              have HRc : Hid (V.right Uc.view) := Lib.hid (by rw [Hc.out]; exact L.apply_right HR0.out HRp.out)
              simp only [vval]
              go_wp2_with fail
              refine (lcpick_any ⟨l0, A0, n0, c0⟩ (D.gives (Vw.view ⟨l0, A0, n0, c0⟩) (D.of v1.view) 8) Ay ny cy _ R0 Ry (by have hq := right_n R0 HR0.out; omega) (by omega) (right_fitR R0 HR0.out)).mono ?_
              rintro e w11 ⟨Uq, rfl, hv, hown, hb⟩
              have Hq : Hid (Uq.dls = L.pick (Vw.view ⟨l0, A0, n0, c0⟩) (D.gives (Vw.view ⟨l0, A0, n0, c0⟩) (D.of v1.view) 8)) := Lib.hid hv
              have Rq := hown.lrd
              clear hv hown
              replace R0 := R0.belowH hb
              replace R1 := R1.belowH hb
              replace Ro := Ro.belowH hb
              replace Rx := Rx.belowH hb
              replace Ry := Ry.belowH hb
              replace Rp := Rp.belowH hb
              replace Rc := Rc.belowH hb
              replace Rcn := Rcn.belowH hb
              replace b := b.trans (hb.mono b.size)
              clear hb
              have HRq : Hid (L.right Uq.dls) := Lib.hid (by rw [Hq.out]; exact L.pick_right HR0.out (D.gives_right HR0.out (D.of_right HR1.out) (Nat.le_refl _)))
              simp only [lval]
              go_wp2_with fail
              refine (lcapply_any v1 Uq _ R1 Rq HR1.out HRq.out (by have hq := right_nL Rq HRq.out; omega)).mono ?_
              rintro e w12 ⟨Ud, Adn, ndn, cdn, rfl, hv, Rd, Rdn, hb⟩
              have Hd : Hid (Ud.view = (L.apply v1.view Uq.dls).1) := Lib.hid hv
              clear hv
              replace R0 := R0.belowH hb
              replace R1 := R1.belowH hb
              replace Ro := Ro.belowH hb
              replace Rx := Rx.belowH hb
              replace Ry := Ry.belowH hb
              replace Rp := Rp.belowH hb
              replace Rc := Rc.belowH hb
              replace Rcn := Rcn.belowH hb
              replace Rq := Rq.belowH hb
              replace b := b.trans (hb.mono b.size)
              clear hb
              have HRd : Hid (V.right Ud.view) := Lib.hid (by rw [Hd.out]; exact L.apply_right HR1.out HRq.out)
              simp only [vval]
              go_wp2_with fail
              refine (rvjoin_any ⟨l0, A0, n0, c0⟩ v1 _ R0 R1 HR0.out HR1.out).mono ?_
              rintro e w13 ⟨Uj, rfl, hv, hown, hb⟩
              have Hj : Hid (Uj.view = V.join (Vw.view ⟨l0, A0, n0, c0⟩) v1.view) := Lib.hid hv
              have Rj := hown.vrd
              clear hv hown
              replace R0 := R0.belowH hb
              replace R1 := R1.belowH hb
              replace Ro := Ro.belowH hb
              replace Rx := Rx.belowH hb
              replace Ry := Ry.belowH hb
              replace Rp := Rp.belowH hb
              replace Rc := Rc.belowH hb
              replace Rcn := Rcn.belowH hb
              replace Rq := Rq.belowH hb
              replace Rd := Rd.belowH hb
              replace Rdn := Rdn.belowH hb
              replace b := b.trans (hb.mono b.size)
              clear hb
              have HRj : Hid (V.right Uj.view) := Lib.hid (by rw [Hj.out]; exact V.join_right HR0.out HR1.out)
              simp only [vval]
              go_wp2_with fail
              refine (rvsame_any Uc Uj _ Rc Rj (by have hq := right_n Rc HRc.out; omega) (by have hq := right_n Rj HRj.out; omega) (right_fitR Rc HRc.out) (right_fitR Rj HRj.out)).mono ?_
              rw [decide_eq_true (show Uc.view = Uj.view by rw [Hc.out, Hj.out, Hp.out]; exact L.whole HR0.out HR1.out HP.out)]
              rintro e w14 ⟨rfl, hb⟩
              replace R0 := R0.belowH hb
              replace R1 := R1.belowH hb
              replace Ro := Ro.belowH hb
              replace Rx := Rx.belowH hb
              replace Ry := Ry.belowH hb
              replace Rp := Rp.belowH hb
              replace Rc := Rc.belowH hb
              replace Rcn := Rcn.belowH hb
              replace Rq := Rq.belowH hb
              replace Rd := Rd.belowH hb
              replace Rdn := Rdn.belowH hb
              replace Rj := Rj.belowH hb
              replace b := b.trans (hb.mono b.size)
              clear hb
              go_wp2_with fail
              refine (rvsame_any Ud Uc _ Rd Rc (by have hq := right_n Rd HRd.out; omega) (by have hq := right_n Rc HRc.out; omega) (right_fitR Rd HRd.out) (right_fitR Rc HRc.out)).mono ?_
              rw [decide_eq_true (show Ud.view = Uc.view by rw [Hd.out, Hc.out, Hp.out, Hq.out]; exact (L.whole2 HR0.out HR1.out HP.out).trans (L.whole HR0.out HR1.out HP.out).symm)]
              rintro e w15 ⟨rfl, hb⟩
              replace R0 := R0.belowH hb
              replace R1 := R1.belowH hb
              replace Ro := Ro.belowH hb
              replace Rx := Rx.belowH hb
              replace Ry := Ry.belowH hb
              replace Rp := Rp.belowH hb
              replace Rc := Rc.belowH hb
              replace Rcn := Rcn.belowH hb
              replace Rq := Rq.belowH hb
              replace Rd := Rd.belowH hb
              replace Rdn := Rdn.belowH hb
              replace Rj := Rj.belowH hb
              replace b := b.trans (hb.mono b.size)
              clear hb
              go_wp2
              go_ret
              exact ⟨rfl, b⟩
    · go_wp2
      go_ret
      exact ⟨rfl, b⟩
  · go_wp2
    go_ret
    exact ⟨rfl, b⟩
end Go.Proofs.Ytkabkpeamggnnaa

