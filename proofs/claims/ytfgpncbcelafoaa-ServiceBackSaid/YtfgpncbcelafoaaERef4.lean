/- The reference's Right (under way: the region's unwanted guards). -/
import Derived.Test.YtfgpncbcelafoaaERef3
import Derived.Laws.StructEq
import Derived.Deep.RegionHeld3
namespace Go.Proofs.Ytfgpncbcelafoaa
set_option linter.unusedVariables false
set_option linter.unusedSimpArgs false
open Go.RowKit

set_option maxHeartbeats 1600000 in
set_option maxRecDepth 20000 in
theorem rright_t (l : List Ent) (A : Option Addr) (n c B : Nat) (w : World) (h : Rd w B 3 A n (EC l)) (hB : B ≤ w.heap.size) (hn : n * 32 ≤ 140737488351232) :
    Calls Try.prog 16 #[.slice A n c] w fun e w' => (∃ b, e = .returned (.bool b) ∧ (b = true ↔ E.right l)) ∧ Below w.heap.size w w' := by
  have hl := h.lenE
  have HL := Lib.hid hl
  clear hl
  go_enter Try.func16, Try.ntmps16
  go_wp2
  go_loopw [3] (fun i wr => ∃ k : Nat, k ≤ n ∧ i = .int .i64 k ∧ E.right (l.take k) ∧ Below w.heap.size w wr) (fun i _ => n - (intOf i).toNat)
  case atStart => exact ⟨0, by omega, rfl, ⟨by simp, trivial⟩, Below.refl _ _⟩
  case round =>
    obtain ⟨k, hk, rfl, hno, hbel⟩ := hrel
    have HN := Lib.hid hno
    have hbs := hbel.size
    clear hno
    by_cases hlt : k < n
    · obtain ⟨b, o, x, e1, hb, hx, c0, c1, c2⟩ := (h.below (hbel.mono hB)).atE hlt
      subst e1
      have HX := Lib.hid hx
      clear hx
      have hk0 : (0 : Int) ≤ (k : Int) := by omega
      rcases hm : emayB x
      · have hno : ¬ E.right l := fun hr => (of_decide_eq_false hm) (hr.1 x (List.mem_of_getElem? HX.out))
        have HNO := Lib.hid hno
        have cm := fun w => rmay_any x w
        rw [hm] at cm
        have CM := Lib.hid cm
        clear hno cm hm
        go_wp2
        refine wp_region_held_drew (S := (fun w' => w'.cell? ⟨b, o + k * 3, none⟩ = some (.int .i64 x.key) ∧ w'.cell? ⟨b, o + k * 3 + 1, none⟩ = some (.int .i64 x.ver) ∧ w'.cell? ⟨b, o + k * 3 + 2, none⟩ = some (.string (strB x.val)))) (by kernel_rfl) (by first | go_keep | exact ⟨d0.trans c0, d1.trans c1, d2.trans c2⟩) (fun hHeld0 => ?_)
        refine tk 0 10 rfl hHeld0 ?_
        refine tk 1 11 rfl hHeld0 ?_
        refine tk 2 12 rfl hHeld0 ?_
        refine tk 3 13 rfl hHeld0 ?_
        refine wpAnyH_ready (rs := [4]) (by kernel_rfl) (by simp) (AllReadyH.cons (o := ⟨some 14, _, _, _, _, _⟩) rfl (fun K hK => ?_) AllReadyH.nil)
        go_simp
        (refine (CM.out _).mono ?_; rintro e w2 ⟨rfl, hb2⟩; have d0 := hb2.cell (p := ⟨b, o + k * 3, none⟩) (by show b < wr.heap.size; omega); have d1 := hb2.cell (p := ⟨b, o + k * 3 + 1, none⟩) (by show b < wr.heap.size; omega); have d2 := hb2.cell (p := ⟨b, o + k * 3 + 2, none⟩) (by show b < wr.heap.size; omega))
        go_simp
        refine hK.out _ _ (by first | go_keep | exact ⟨d0.trans c0, d1.trans c1, d2.trans c2⟩) (fun hHeld1 => ?_)
        clear hK hHeld0 K
        try simp only [Act.put, sA, sB, sC]
        refine tk 5 15 rfl hHeld1 ?_
        refine tk 6 16 rfl hHeld1 ?_
        refine tu 7 17 rfl hHeld1 ?_
        refine tu 8 18 rfl hHeld1 ?_
        refine tu 9 19 rfl hHeld1 ?_
        refine tu 10 20 rfl hHeld1 ?_
        refine tu 11 21 rfl hHeld1 ?_
        refine tu 12 22 rfl hHeld1 ?_
        refine tu 13 23 rfl hHeld1 ?_
        refine tu 14 24 rfl hHeld1 ?_
        refine tu 15 25 rfl hHeld1 ?_
        refine tu 16 26 rfl hHeld1 ?_
        refine tu 17 27 rfl hHeld1 ?_
        refine tu 18 28 rfl hHeld1 ?_
        refine tu 19 29 rfl hHeld1 ?_
        refine tu 20 30 rfl hHeld1 ?_
        refine tu 21 31 rfl hHeld1 ?_
        refine tu 22 32 rfl hHeld1 ?_
        refine tk 23 33 rfl hHeld1 ?_
        refine wpAnyH_done (by kernel_rfl) ?_ _
        all_goals
          go_wp2
          go_ret
          exact ⟨⟨false, rfl, ⟨(fun h => by cases h), fun h => absurd h HNO.out⟩⟩, hbel.trans (Below.mono (Below.trans (Below.refl _ _).drew hb2) hbs)⟩
      · have cm := fun w => rmay_any x w
        rw [hm] at cm
        have hmx : E.may x := of_decide_eq_true hm
        have CM := Lib.hid cm
        have HMX := Lib.hid hmx
        clear cm hm hmx
        by_cases hkp : 0 < k
        · obtain ⟨b', o', y, e2, hb', hy, f0, f1, f2⟩ := (h.below (hbel.mono hB)).atE (show k - 1 < n by omega)
          obtain ⟨rfl, rfl⟩ : b = b' ∧ o = o' := by simpa using e2
          have HY := Lib.hid hy
          clear hy e2 f1 f2
          have g1 : (0 : Int) ≤ (k : Int) - 1 := by omega
          have g1' : (1 : Int) ≤ (k : Int) := by omega
          have g2 : (k : Int) - 1 < (n : Int) := by omega
          have g3 : ((k : Int) - 1).toNat = k - 1 := by omega
          have g4 : IntKind.i64.wrap ((k : Int) - 1) = (k : Int) - 1 := IntWalk.i64_in _ (by omega)
          by_cases hlt2 : y.key < x.key
          · have hd : decide (x.key ≤ y.key) = false := decide_eq_false (by omega)
            go_wp2
            refine wp_region_held_drew (S := (fun w' => w'.cell? ⟨b, o + k * 3, none⟩ = some (.int .i64 x.key) ∧ w'.cell? ⟨b, o + k * 3 + 1, none⟩ = some (.int .i64 x.ver) ∧ w'.cell? ⟨b, o + k * 3 + 2, none⟩ = some (.string (strB x.val)) ∧ w'.cell? ⟨b, o + (k - 1) * 3, none⟩ = some (.int .i64 y.key))) (by kernel_rfl) (by first | go_keep | exact ⟨d0.trans c0, d1.trans c1, d2.trans c2, d3.trans f0⟩) (fun hHeld0 => ?_)
            refine tk 0 10 rfl hHeld0 ?_
            refine tk 1 11 rfl hHeld0 ?_
            refine tk 2 12 rfl hHeld0 ?_
            refine tk 3 13 rfl hHeld0 ?_
            refine wpAnyH_ready (rs := [4]) (by kernel_rfl) (by simp) (AllReadyH.cons (o := ⟨some 14, _, _, _, _, _⟩) rfl (fun K hK => ?_) AllReadyH.nil)
            go_simp
            (refine (CM.out _).mono ?_; rintro e w2 ⟨rfl, hb2⟩; have d0 := hb2.cell (p := ⟨b, o + k * 3, none⟩) (by show b < wr.heap.size; omega); have d1 := hb2.cell (p := ⟨b, o + k * 3 + 1, none⟩) (by show b < wr.heap.size; omega); have d2 := hb2.cell (p := ⟨b, o + k * 3 + 2, none⟩) (by show b < wr.heap.size; omega); have d3 := hb2.cell (p := ⟨b, o + (k - 1) * 3, none⟩) (by show b < wr.heap.size; omega))
            go_simp
            refine hK.out _ _ (by first | go_keep | exact ⟨d0.trans c0, d1.trans c1, d2.trans c2, d3.trans f0⟩) (fun hHeld1 => ?_)
            clear hK hHeld0 K
            try simp only [Act.put, sA, sB, sC]
            refine tk 5 15 rfl hHeld1 ?_
            refine tk 6 16 rfl hHeld1 ?_
            refine tk 7 17 rfl hHeld1 ?_
            refine tk 8 18 rfl hHeld1 ?_
            refine tk 9 19 rfl hHeld1 ?_
            refine tk 10 20 rfl hHeld1 ?_
            refine tk 11 21 rfl hHeld1 ?_
            refine tk 12 22 rfl hHeld1 ?_
            refine tk 13 23 rfl hHeld1 ?_
            refine tk 14 24 rfl hHeld1 ?_
            refine tk 15 25 rfl hHeld1 ?_
            refine tk 16 26 rfl hHeld1 ?_
            refine tk 17 27 rfl hHeld1 ?_
            refine tk 18 28 rfl hHeld1 ?_
            refine tk 19 29 rfl hHeld1 ?_
            refine tk 20 30 rfl hHeld1 ?_
            refine tk 21 31 rfl hHeld1 ?_
            refine tk 22 32 rfl hHeld1 ?_
            refine tk 23 33 rfl hHeld1 ?_
            refine wpAnyH_done (by kernel_rfl) ?_ _
            all_goals
              go_wp2
              go_roundw
              case rel =>
                refine ⟨k + 1, by omega, by go_num, ?_, hbel.trans (Below.mono (Below.trans (Below.refl _ _).drew hb2) hbs)⟩
                rw [take_more HX.out]
                exact right_snoc.2 ⟨HN.out, HMX.out, below_last HN.out.2 (k := k - 1) (by rw [List.length_take, HL.out]; omega) (by rw [List.getElem?_take, if_pos (by omega)]; exact HY.out) hlt2⟩
              case measure => simp [intOf]; omega
          · have hd : decide (x.key ≤ y.key) = true := decide_eq_true (by omega)
            have hno : ¬ E.right l := fun hr => hlt2 (E.rising_at hr.2 (show k - 1 < k by omega) HY.out HX.out)
            have HNO := Lib.hid hno
            clear hno
            go_wp2
            refine wp_region_held_drew (S := (fun w' => w'.cell? ⟨b, o + k * 3, none⟩ = some (.int .i64 x.key) ∧ w'.cell? ⟨b, o + k * 3 + 1, none⟩ = some (.int .i64 x.ver) ∧ w'.cell? ⟨b, o + k * 3 + 2, none⟩ = some (.string (strB x.val)) ∧ w'.cell? ⟨b, o + (k - 1) * 3, none⟩ = some (.int .i64 y.key))) (by kernel_rfl) (by first | go_keep | exact ⟨d0.trans c0, d1.trans c1, d2.trans c2, d3.trans f0⟩) (fun hHeld0 => ?_)
            refine tk 0 10 rfl hHeld0 ?_
            refine tk 1 11 rfl hHeld0 ?_
            refine tk 2 12 rfl hHeld0 ?_
            refine tk 3 13 rfl hHeld0 ?_
            refine wpAnyH_ready (rs := [4]) (by kernel_rfl) (by simp) (AllReadyH.cons (o := ⟨some 14, _, _, _, _, _⟩) rfl (fun K hK => ?_) AllReadyH.nil)
            go_simp
            (refine (CM.out _).mono ?_; rintro e w2 ⟨rfl, hb2⟩; have d0 := hb2.cell (p := ⟨b, o + k * 3, none⟩) (by show b < wr.heap.size; omega); have d1 := hb2.cell (p := ⟨b, o + k * 3 + 1, none⟩) (by show b < wr.heap.size; omega); have d2 := hb2.cell (p := ⟨b, o + k * 3 + 2, none⟩) (by show b < wr.heap.size; omega); have d3 := hb2.cell (p := ⟨b, o + (k - 1) * 3, none⟩) (by show b < wr.heap.size; omega))
            go_simp
            refine hK.out _ _ (by first | go_keep | exact ⟨d0.trans c0, d1.trans c1, d2.trans c2, d3.trans f0⟩) (fun hHeld1 => ?_)
            clear hK hHeld0 K
            try simp only [Act.put, sA, sB, sC]
            refine tk 5 15 rfl hHeld1 ?_
            refine tk 6 16 rfl hHeld1 ?_
            refine tk 7 17 rfl hHeld1 ?_
            refine tk 8 18 rfl hHeld1 ?_
            refine tk 9 19 rfl hHeld1 ?_
            refine tk 10 20 rfl hHeld1 ?_
            refine tk 11 21 rfl hHeld1 ?_
            refine tk 12 22 rfl hHeld1 ?_
            refine tk 13 23 rfl hHeld1 ?_
            refine tk 14 24 rfl hHeld1 ?_
            refine tk 15 25 rfl hHeld1 ?_
            refine tk 16 26 rfl hHeld1 ?_
            refine tk 17 27 rfl hHeld1 ?_
            refine tk 18 28 rfl hHeld1 ?_
            refine tk 19 29 rfl hHeld1 ?_
            refine tk 20 30 rfl hHeld1 ?_
            refine tk 21 31 rfl hHeld1 ?_
            refine tk 22 32 rfl hHeld1 ?_
            refine tk 23 33 rfl hHeld1 ?_
            refine wpAnyH_done (by kernel_rfl) ?_ _
            all_goals
              go_wp2
              go_ret
              exact ⟨⟨false, rfl, ⟨(fun h => by cases h), fun h => absurd h HNO.out⟩⟩, hbel.trans (Below.mono (Below.trans (Below.refl _ _).drew hb2) hbs)⟩
        · have hk1 : ¬ (0 : Int) < (k : Int) := by omega
          go_wp2
          refine wp_region_held_drew (S := (fun w' => w'.cell? ⟨b, o + k * 3, none⟩ = some (.int .i64 x.key) ∧ w'.cell? ⟨b, o + k * 3 + 1, none⟩ = some (.int .i64 x.ver) ∧ w'.cell? ⟨b, o + k * 3 + 2, none⟩ = some (.string (strB x.val)))) (by kernel_rfl) (by first | go_keep | exact ⟨d0.trans c0, d1.trans c1, d2.trans c2⟩) (fun hHeld0 => ?_)
          refine tk 0 10 rfl hHeld0 ?_
          refine tk 1 11 rfl hHeld0 ?_
          refine tk 2 12 rfl hHeld0 ?_
          refine tk 3 13 rfl hHeld0 ?_
          refine wpAnyH_ready (rs := [4]) (by kernel_rfl) (by simp) (AllReadyH.cons (o := ⟨some 14, _, _, _, _, _⟩) rfl (fun K hK => ?_) AllReadyH.nil)
          go_simp
          (refine (CM.out _).mono ?_; rintro e w2 ⟨rfl, hb2⟩; have d0 := hb2.cell (p := ⟨b, o + k * 3, none⟩) (by show b < wr.heap.size; omega); have d1 := hb2.cell (p := ⟨b, o + k * 3 + 1, none⟩) (by show b < wr.heap.size; omega); have d2 := hb2.cell (p := ⟨b, o + k * 3 + 2, none⟩) (by show b < wr.heap.size; omega))
          go_simp
          refine hK.out _ _ (by first | go_keep | exact ⟨d0.trans c0, d1.trans c1, d2.trans c2⟩) (fun hHeld1 => ?_)
          clear hK hHeld0 K
          try simp only [Act.put, sA, sB, sC]
          refine tk 5 15 rfl hHeld1 ?_
          refine tk 6 16 rfl hHeld1 ?_
          refine tk 7 17 rfl hHeld1 ?_
          refine tk 8 18 rfl hHeld1 ?_
          refine tk 9 19 rfl hHeld1 ?_
          refine tu 10 20 rfl hHeld1 ?_
          refine tu 11 21 rfl hHeld1 ?_
          refine tu 12 22 rfl hHeld1 ?_
          refine tu 13 23 rfl hHeld1 ?_
          refine tu 14 24 rfl hHeld1 ?_
          refine tu 15 25 rfl hHeld1 ?_
          refine tu 16 26 rfl hHeld1 ?_
          refine tu 17 27 rfl hHeld1 ?_
          refine tu 18 28 rfl hHeld1 ?_
          refine tu 19 29 rfl hHeld1 ?_
          refine tu 20 30 rfl hHeld1 ?_
          refine tu 21 31 rfl hHeld1 ?_
          refine tk 22 32 rfl hHeld1 ?_
          refine tk 23 33 rfl hHeld1 ?_
          refine wpAnyH_done (by kernel_rfl) ?_ _
          all_goals
            go_wp2
            go_roundw
            case rel =>
              refine ⟨k + 1, by omega, by go_num, ?_, hbel.trans (Below.mono (Below.trans (Below.refl _ _).drew hb2) hbs)⟩
              rw [take_more HX.out]
              exact right_snoc.2 ⟨HN.out, HMX.out, fun y hy => by rw [show k = 0 by omega] at hy; simp at hy⟩
            case measure => simp [intOf]; omega
    · have he : E.right l := by have := HN.out; rwa [List.take_of_length_le (by have := HL.out; omega)] at this
      have HE := Lib.hid he
      clear he
      go_wp2
      go_ret
      exact ⟨⟨true, rfl, ⟨fun _ => HE.out, fun _ => rfl⟩⟩, hbel⟩
end Go.Proofs.Ytfgpncbcelafoaa
