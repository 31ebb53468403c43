/- ERef2 ERef3 ERef4 ERef5 ERef6 ECode (merged). -/
import Derived.Laws.StructEq
import Derived.Deep.RegionHeld3
import Derived.Test.YtmbfldcmiabccaaGreatDoorJF00
namespace Go.Proofs.YtmbfldcmiabccaaGreatDoor
set_option linter.unusedVariables false
set_option linter.unusedSimpArgs false
open Go.RowKit

/-- what Get answers -/
def getV (o : Option Ent) : Value := .tuple #[match o with | some x => ev x | none => .agg #[.int .i64 0, .int .i64 0, .string ⟨#[]⟩], .bool o.isSome]
set_option maxHeartbeats 1000000 in
theorem rget_any (l : List Ent) (key : Int) (A : Option Addr) (n c B : Nat) (w : World) (h : Rd w B 3 A n (EC l)) (hB : B ≤ w.heap.size) (hn : n * 32 ≤ 140737488351232) :
    Calls Tryz.prog 63 #[.slice A n c, .int .i64 key] w fun e w' => e = .returned (getV (E.get l key)) ∧ Below w.heap.size w w' := by
  have hl := h.lenE
  have HL := Lib.hid hl
  clear hl
  go_enter Tryz.func63, Tryz.ntmps63
  go_wp2_with fail
  have hr := h.alloc hB (.cells #[.int .i64 0, .int .i64 0, .string ⟨#[]⟩] 48)
  have hb0 : Below w.heap.size w (w.alloc (.cells #[.int .i64 0, .int .i64 0, .string ⟨#[]⟩] 48)) := (Below.refl _ _).alloc (Nat.le_refl _) _
  go_wp2
  go_loop [6] (fun i => ∃ k : Nat, k ≤ n ∧ i = .int .i64 k ∧ ∀ y ∈ l.take k, y.key ≠ key) (fun i => n - (intOf i).toNat)
  case atStart => exact ⟨0, by omega, rfl, by simp⟩
  case round =>
    obtain ⟨k, hk, rfl, hno⟩ := hrel
    have HN := Lib.hid hno
    clear hno
    by_cases hlt : k < n
    · obtain ⟨b, o, x, rfl, hb, hx, c0, c1', c2⟩ := hr.atE hlt
      have HX := Lib.hid hx
      clear hx
      by_cases he : x.key = key
      · have hg := E.get_at HX.out he HN.out
        have HG := Lib.hid hg
        have t1 : (x.key == key) = true := beq_iff_eq.2 he
        clear hg he
        go_wp2
        go_returns
        exact ⟨by rw [HG.out]; rfl, by first | exact below_set (below_set (below_set hb0 (Nat.le_refl _) _) (Nat.le_refl _) _) (Nat.le_refl _) _ | exact (Below.refl _ _).alloc (Nat.le_refl _) _⟩
      · have t1 : (x.key == key) = false := beq_eq_false_iff_ne.2 he
        have HE := Lib.hid he
        clear he
        go_wp2
        go_round
        case rel =>
          refine ⟨k + 1, by omega, by go_num, fun y hy => ?_⟩
          rw [take_more HX.out] at hy
          rcases List.mem_append.1 hy with hy | hy
          · exact HN.out y hy
          · obtain rfl : y = x := by simpa using hy
            exact HE.out
        case measure => simp [intOf]; omega
    · have hg : E.get l key = none := E.get_rising_none (by have := HN.out; rwa [List.take_of_length_le (by have := HL.out; omega)] at this)
      have HG := Lib.hid hg
      clear hg
      go_wp2
      go_returns
      exact ⟨by rw [HG.out]; rfl, by first | exact below_set (below_set (below_set hb0 (Nat.le_refl _) _) (Nat.le_refl _) _) (Nat.le_refl _) _ | exact (Below.refl _ _).alloc (Nat.le_refl _) _⟩
end Go.Proofs.YtmbfldcmiabccaaGreatDoor

namespace Go.Proofs.YtmbfldcmiabccaaGreatDoor
set_option linter.unusedVariables false
set_option linter.unusedSimpArgs false
open Go.RowKit

theorem right_snoc {l : List Ent} {x : Ent} : E.right (l ++ [x]) ↔ E.right l ∧ E.may x ∧ ∀ y ∈ l, y.key < x.key := by
  unfold E.right
  rw [E.rising_snoc]
  constructor
  · rintro ⟨h1, h2, h3⟩
    exact ⟨⟨fun y hy => h1 y (by simp [hy]), h2⟩, h1 x (by simp), h3⟩
  · rintro ⟨⟨h1, h2⟩, h3, h4⟩
    refine ⟨fun y hy => ?_, h2, h4⟩
    rcases List.mem_append.1 hy with hy | hy
    · exact h1 y hy
    · obtain rfl : y = x := by simpa using hy
      exact h3
theorem below_last {l : List Ent} (hr : E.rising l) {k : Nat} {y x : Ent} (hl : k + 1 = l.length) (hy : l[k]? = some y) (hx : y.key < x.key) : ∀ z ∈ l, z.key < x.key := by
  intro z hz
  obtain ⟨i, hi, rfl⟩ := List.mem_iff_getElem.1 hz
  by_cases h : i = k
  · subst h
    rw [List.getElem?_eq_getElem hi] at hy
    injection hy with hy; rw [hy]; exact hx
  · have := E.rising_at hr (show i < k by omega) (List.getElem?_eq_getElem hi) hy
    omega
end Go.Proofs.YtmbfldcmiabccaaGreatDoor

namespace Go.Proofs.YtmbfldcmiabccaaGreatDoor
set_option linter.unusedVariables false
set_option linter.unusedSimpArgs false
open Go.RowKit

set_option maxHeartbeats 1600000 in
set_option maxRecDepth 20000 in
theorem rright_t (l : List Ent) (A : Option Addr) (n c B : Nat) (w : World) (h : Rd w B 3 A n (EC l)) (hB : B ≤ w.heap.size) (hn : n * 32 ≤ 140737488351232) :
    Calls Tryz.prog 51 #[.slice A n c] w fun e w' => (∃ b, e = .returned (.bool b) ∧ (b = true ↔ E.right l)) ∧ Below w.heap.size w w' := by
  have hl := h.lenE
  have HL := Lib.hid hl
  clear hl
  go_enter Tryz.func51, Tryz.ntmps51
  go_wp2
  go_loopw [3] (fun i wr => ∃ k : Nat, k ≤ n ∧ i = .int .i64 k ∧ E.right (l.take k) ∧ Below w.heap.size w wr) (fun i _ => n - (intOf i).toNat)
  case atStart => exact ⟨0, by omega, rfl, ⟨by simp, trivial⟩, Below.refl _ _⟩
  case round =>
    obtain ⟨k, hk, rfl, hno, hbel⟩ := hrel
    have HN := Lib.hid hno
    have hbs := hbel.size
    clear hno
    by_cases hlt : k < n
    · obtain ⟨b, o, x, e1, hb, hx, c0, c1, c2⟩ := (h.below (hbel.mono hB)).atE hlt
      subst e1
      have HX := Lib.hid hx
      clear hx
      have hk0 : (0 : Int) ≤ (k : Int) := by omega
      rcases hm : emayB x
      · have hno : ¬ E.right l := fun hr => (of_decide_eq_false hm) (hr.1 x (List.mem_of_getElem? HX.out))
        have HNO := Lib.hid hno
        have cm := fun w => rmay_any x w
        rw [hm] at cm
        have CM := Lib.hid cm
        clear hno cm hm
        go_wp2
        refine wp_region_held_drew (S := (fun w' => w'.cell? ⟨b, o + k * 3, none⟩ = some (.int .i64 x.key) ∧ w'.cell? ⟨b, o + k * 3 + 1, none⟩ = some (.int .i64 x.ver) ∧ w'.cell? ⟨b, o + k * 3 + 2, none⟩ = some (.string (strB x.val)))) (by kernel_rfl) (by first | go_keep | exact ⟨d0.trans c0, d1.trans c1, d2.trans c2⟩) (fun hHeld0 => ?_)
        refine tk 0 10 rfl hHeld0 ?_
        refine tk 1 11 rfl hHeld0 ?_
        refine tk 2 12 rfl hHeld0 ?_
        refine tk 3 13 rfl hHeld0 ?_
        refine wpAnyH_ready (rs := [4]) (by kernel_rfl) (by simp) (AllReadyH.cons (o := ⟨some 14, _, _, _, _, _⟩) rfl (fun K hK => ?_) AllReadyH.nil)
        go_simp
        (refine (CM.out _).mono ?_; rintro e w2 ⟨rfl, hb2⟩; have d0 := hb2.cell (p := ⟨b, o + k * 3, none⟩) (by show b < wr.heap.size; omega); have d1 := hb2.cell (p := ⟨b, o + k * 3 + 1, none⟩) (by show b < wr.heap.size; omega); have d2 := hb2.cell (p := ⟨b, o + k * 3 + 2, none⟩) (by show b < wr.heap.size; omega))
        go_simp
        refine hK.out _ _ (by first | go_keep | exact ⟨d0.trans c0, d1.trans c1, d2.trans c2⟩) (fun hHeld1 => ?_)
        clear hK hHeld0 K
        try simp only [Act.put, sA, sB, sC]
        refine tk 5 15 rfl hHeld1 ?_
        refine tk 6 16 rfl hHeld1 ?_
        refine tu 7 17 rfl hHeld1 ?_
        refine tu 8 18 rfl hHeld1 ?_
        refine tu 9 19 rfl hHeld1 ?_
        refine tu 10 20 rfl hHeld1 ?_
        refine tu 11 21 rfl hHeld1 ?_
        refine tu 12 22 rfl hHeld1 ?_
        refine tu 13 23 rfl hHeld1 ?_
        refine tu 14 24 rfl hHeld1 ?_
        refine tu 15 25 rfl hHeld1 ?_
        refine tu 16 26 rfl hHeld1 ?_
        refine tu 17 27 rfl hHeld1 ?_
        refine tu 18 28 rfl hHeld1 ?_
        refine tu 19 29 rfl hHeld1 ?_
        refine tu 20 30 rfl hHeld1 ?_
        refine tu 21 31 rfl hHeld1 ?_
        refine tu 22 32 rfl hHeld1 ?_
        refine tk 23 33 rfl hHeld1 ?_
        refine wpAnyH_done (by kernel_rfl) ?_ _
        all_goals
          go_wp2
          go_ret
          exact ⟨⟨false, rfl, ⟨(fun h => by cases h), fun h => absurd h HNO.out⟩⟩, hbel.trans (Below.mono (Below.trans (Below.refl _ _).drew hb2) hbs)⟩
      · have cm := fun w => rmay_any x w
        rw [hm] at cm
        have hmx : E.may x := of_decide_eq_true hm
        have CM := Lib.hid cm
        have HMX := Lib.hid hmx
        clear cm hm hmx
        by_cases hkp : 0 < k
        · obtain ⟨b', o', y, e2, hb', hy, f0, f1, f2⟩ := (h.below (hbel.mono hB)).atE (show k - 1 < n by omega)
          obtain ⟨rfl, rfl⟩ : b = b' ∧ o = o' := by simpa using e2
          have HY := Lib.hid hy
          clear hy e2 f1 f2
          have g1 : (0 : Int) ≤ (k : Int) - 1 := by omega
          have g1' : (1 : Int) ≤ (k : Int) := by omega
          have g2 : (k : Int) - 1 < (n : Int) := by omega
          have g3 : ((k : Int) - 1).toNat = k - 1 := by omega
          have g4 : IntKind.i64.wrap ((k : Int) - 1) = (k : Int) - 1 := IntWalk.i64_in _ (by omega)
          by_cases hlt2 : y.key < x.key
          · have hd : decide (x.key ≤ y.key) = false := decide_eq_false (by omega)
            go_wp2
            refine wp_region_held_drew (S := (fun w' => w'.cell? ⟨b, o + k * 3, none⟩ = some (.int .i64 x.key) ∧ w'.cell? ⟨b, o + k * 3 + 1, none⟩ = some (.int .i64 x.ver) ∧ w'.cell? ⟨b, o + k * 3 + 2, none⟩ = some (.string (strB x.val)) ∧ w'.cell? ⟨b, o + (k - 1) * 3, none⟩ = some (.int .i64 y.key))) (by kernel_rfl) (by first | go_keep | exact ⟨d0.trans c0, d1.trans c1, d2.trans c2, d3.trans f0⟩) (fun hHeld0 => ?_)
            refine tk 0 10 rfl hHeld0 ?_
            refine tk 1 11 rfl hHeld0 ?_
            refine tk 2 12 rfl hHeld0 ?_
            refine tk 3 13 rfl hHeld0 ?_
            refine wpAnyH_ready (rs := [4]) (by kernel_rfl) (by simp) (AllReadyH.cons (o := ⟨some 14, _, _, _, _, _⟩) rfl (fun K hK => ?_) AllReadyH.nil)
            go_simp
            (refine (CM.out _).mono ?_; rintro e w2 ⟨rfl, hb2⟩; have d0 := hb2.cell (p := ⟨b, o + k * 3, none⟩) (by show b < wr.heap.size; omega); have d1 := hb2.cell (p := ⟨b, o + k * 3 + 1, none⟩) (by show b < wr.heap.size; omega); have d2 := hb2.cell (p := ⟨b, o + k * 3 + 2, none⟩) (by show b < wr.heap.size; omega); have d3 := hb2.cell (p := ⟨b, o + (k - 1) * 3, none⟩) (by show b < wr.heap.size; omega))
            go_simp
            refine hK.out _ _ (by first | go_keep | exact ⟨d0.trans c0, d1.trans c1, d2.trans c2, d3.trans f0⟩) (fun hHeld1 => ?_)
            clear hK hHeld0 K
            try simp only [Act.put, sA, sB, sC]
            refine tk 5 15 rfl hHeld1 ?_
            refine tk 6 16 rfl hHeld1 ?_
            refine tk 7 17 rfl hHeld1 ?_
            refine tk 8 18 rfl hHeld1 ?_
            refine tk 9 19 rfl hHeld1 ?_
            refine tk 10 20 rfl hHeld1 ?_
            refine tk 11 21 rfl hHeld1 ?_
            refine tk 12 22 rfl hHeld1 ?_
            refine tk 13 23 rfl hHeld1 ?_
            refine tk 14 24 rfl hHeld1 ?_
            refine tk 15 25 rfl hHeld1 ?_
            refine tk 16 26 rfl hHeld1 ?_
            refine tk 17 27 rfl hHeld1 ?_
            refine tk 18 28 rfl hHeld1 ?_
            refine tk 19 29 rfl hHeld1 ?_
            refine tk 20 30 rfl hHeld1 ?_
            refine tk 21 31 rfl hHeld1 ?_
            refine tk 22 32 rfl hHeld1 ?_
            refine tk 23 33 rfl hHeld1 ?_
            refine wpAnyH_done (by kernel_rfl) ?_ _
            all_goals
              go_wp2
              go_roundw
              case rel =>
                refine ⟨k + 1, by omega, by go_num, ?_, hbel.trans (Below.mono (Below.trans (Below.refl _ _).drew hb2) hbs)⟩
                rw [take_more HX.out]
                exact right_snoc.2 ⟨HN.out, HMX.out, below_last HN.out.2 (k := k - 1) (by rw [List.length_take, HL.out]; omega) (by rw [List.getElem?_take, if_pos (by omega)]; exact HY.out) hlt2⟩
              case measure => simp [intOf]; omega
          · have hd : decide (x.key ≤ y.key) = true := decide_eq_true (by omega)
            have hno : ¬ E.right l := fun hr => hlt2 (E.rising_at hr.2 (show k - 1 < k by omega) HY.out HX.out)
            have HNO := Lib.hid hno
            clear hno
            go_wp2
            refine wp_region_held_drew (S := (fun w' => w'.cell? ⟨b, o + k * 3, none⟩ = some (.int .i64 x.key) ∧ w'.cell? ⟨b, o + k * 3 + 1, none⟩ = some (.int .i64 x.ver) ∧ w'.cell? ⟨b, o + k * 3 + 2, none⟩ = some (.string (strB x.val)) ∧ w'.cell? ⟨b, o + (k - 1) * 3, none⟩ = some (.int .i64 y.key))) (by kernel_rfl) (by first | go_keep | exact ⟨d0.trans c0, d1.trans c1, d2.trans c2, d3.trans f0⟩) (fun hHeld0 => ?_)
            refine tk 0 10 rfl hHeld0 ?_
            refine tk 1 11 rfl hHeld0 ?_
            refine tk 2 12 rfl hHeld0 ?_
            refine tk 3 13 rfl hHeld0 ?_
            refine wpAnyH_ready (rs := [4]) (by kernel_rfl) (by simp) (AllReadyH.cons (o := ⟨some 14, _, _, _, _, _⟩) rfl (fun K hK => ?_) AllReadyH.nil)
            go_simp
            (refine (CM.out _).mono ?_; rintro e w2 ⟨rfl, hb2⟩; have d0 := hb2.cell (p := ⟨b, o + k * 3, none⟩) (by show b < wr.heap.size; omega); have d1 := hb2.cell (p := ⟨b, o + k * 3 + 1, none⟩) (by show b < wr.heap.size; omega); have d2 := hb2.cell (p := ⟨b, o + k * 3 + 2, none⟩) (by show b < wr.heap.size; omega); have d3 := hb2.cell (p := ⟨b, o + (k - 1) * 3, none⟩) (by show b < wr.heap.size; omega))
            go_simp
            refine hK.out _ _ (by first | go_keep | exact ⟨d0.trans c0, d1.trans c1, d2.trans c2, d3.trans f0⟩) (fun hHeld1 => ?_)
            clear hK hHeld0 K
            try simp only [Act.put, sA, sB, sC]
            refine tk 5 15 rfl hHeld1 ?_
            refine tk 6 16 rfl hHeld1 ?_
            refine tk 7 17 rfl hHeld1 ?_
            refine tk 8 18 rfl hHeld1 ?_
            refine tk 9 19 rfl hHeld1 ?_
            refine tk 10 20 rfl hHeld1 ?_
            refine tk 11 21 rfl hHeld1 ?_
            refine tk 12 22 rfl hHeld1 ?_
            refine tk 13 23 rfl hHeld1 ?_
            refine tk 14 24 rfl hHeld1 ?_
            refine tk 15 25 rfl hHeld1 ?_
            refine tk 16 26 rfl hHeld1 ?_
            refine tk 17 27 rfl hHeld1 ?_
            refine tk 18 28 rfl hHeld1 ?_
            refine tk 19 29 rfl hHeld1 ?_
            refine tk 20 30 rfl hHeld1 ?_
            refine tk 21 31 rfl hHeld1 ?_
            refine tk 22 32 rfl hHeld1 ?_
            refine tk 23 33 rfl hHeld1 ?_
            refine wpAnyH_done (by kernel_rfl) ?_ _
            all_goals
              go_wp2
              go_ret
              exact ⟨⟨false, rfl, ⟨(fun h => by cases h), fun h => absurd h HNO.out⟩⟩, hbel.trans (Below.mono (Below.trans (Below.refl _ _).drew hb2) hbs)⟩
        · have hk1 : ¬ (0 : Int) < (k : Int) := by omega
          go_wp2
          refine wp_region_held_drew (S := (fun w' => w'.cell? ⟨b, o + k * 3, none⟩ = some (.int .i64 x.key) ∧ w'.cell? ⟨b, o + k * 3 + 1, none⟩ = some (.int .i64 x.ver) ∧ w'.cell? ⟨b, o + k * 3 + 2, none⟩ = some (.string (strB x.val)))) (by kernel_rfl) (by first | go_keep | exact ⟨d0.trans c0, d1.trans c1, d2.trans c2⟩) (fun hHeld0 => ?_)
          refine tk 0 10 rfl hHeld0 ?_
          refine tk 1 11 rfl hHeld0 ?_
          refine tk 2 12 rfl hHeld0 ?_
          refine tk 3 13 rfl hHeld0 ?_
          refine wpAnyH_ready (rs := [4]) (by kernel_rfl) (by simp) (AllReadyH.cons (o := ⟨some 14, _, _, _, _, _⟩) rfl (fun K hK => ?_) AllReadyH.nil)
          go_simp
          (refine (CM.out _).mono ?_; rintro e w2 ⟨rfl, hb2⟩; have d0 := hb2.cell (p := ⟨b, o + k * 3, none⟩) (by show b < wr.heap.size; omega); have d1 := hb2.cell (p := ⟨b, o + k * 3 + 1, none⟩) (by show b < wr.heap.size; omega); have d2 := hb2.cell (p := ⟨b, o + k * 3 + 2, none⟩) (by show b < wr.heap.size; omega))
          go_simp
          refine hK.out _ _ (by first | go_keep | exact ⟨d0.trans c0, d1.trans c1, d2.trans c2⟩) (fun hHeld1 => ?_)
          clear hK hHeld0 K
          try simp only [Act.put, sA, sB, sC]
          refine tk 5 15 rfl hHeld1 ?_
          refine tk 6 16 rfl hHeld1 ?_
          refine tk 7 17 rfl hHeld1 ?_
          refine tk 8 18 rfl hHeld1 ?_
          refine tk 9 19 rfl hHeld1 ?_
          refine tu 10 20 rfl hHeld1 ?_
          refine tu 11 21 rfl hHeld1 ?_
          refine tu 12 22 rfl hHeld1 ?_
          refine tu 13 23 rfl hHeld1 ?_
          refine tu 14 24 rfl hHeld1 ?_
          refine tu 15 25 rfl hHeld1 ?_
          refine tu 16 26 rfl hHeld1 ?_
          refine tu 17 27 rfl hHeld1 ?_
          refine tu 18 28 rfl hHeld1 ?_
          refine tu 19 29 rfl hHeld1 ?_
          refine tu 20 30 rfl hHeld1 ?_
          refine tu 21 31 rfl hHeld1 ?_
          refine tk 22 32 rfl hHeld1 ?_
          refine tk 23 33 rfl hHeld1 ?_
          refine wpAnyH_done (by kernel_rfl) ?_ _
          all_goals
            go_wp2
            go_roundw
            case rel =>
              refine ⟨k + 1, by omega, by go_num, ?_, hbel.trans (Below.mono (Below.trans (Below.refl _ _).drew hb2) hbs)⟩
              rw [take_more HX.out]
              exact right_snoc.2 ⟨HN.out, HMX.out, fun y hy => by rw [show k = 0 by omega] at hy; simp at hy⟩
            case measure => simp [intOf]; omega
    · have he : E.right l := by have := HN.out; rwa [List.take_of_length_le (by have := HL.out; omega)] at this
      have HE := Lib.hid he
      clear he
      go_wp2
      go_ret
      exact ⟨⟨true, rfl, ⟨fun _ => HE.out, fun _ => rfl⟩⟩, hbel⟩
end Go.Proofs.YtmbfldcmiabccaaGreatDoor

namespace Go.Proofs.YtmbfldcmiabccaaGreatDoor
set_option linter.unusedVariables false
set_option linter.unusedSimpArgs false
open Go.RowKit

/-- how far Put has come: x is not put yet, or it is -/
def Putting (l : List Ent) (x : Ent) (k : Nat) (p : Bool) (O : List Ent) : Prop :=
  (p = false ∧ O = l.take k ∧ ∀ y ∈ l.take k, y.key < x.key) ∨ (p = true ∧ O = E.put (l.take k) x ∧ ∃ y ∈ l.take k, x.key ≤ y.key)
theorem Putting.start (l : List Ent) (x : Ent) : Putting l x 0 false [] := Or.inl ⟨rfl, rfl, by simp⟩
theorem Putting.len {l O : List Ent} {x : Ent} {k : Nat} (h : Putting l x k false O) : O.length ≤ k := by
  rcases h with ⟨_, rfl, _⟩ | ⟨e, _⟩
  · rw [List.length_take]; omega
  · cases e
theorem Putting.lower {l O : List Ent} {x y : Ent} {k : Nat} (h : Putting l x k false O) (hy : l[k]? = some y) (hlt : y.key < x.key) : Putting l x (k + 1) false (O ++ [y]) := by
  rcases h with ⟨_, rfl, ha⟩ | ⟨e, _⟩
  · refine Or.inl ⟨rfl, (take_more hy).symm, fun z hz => ?_⟩
    rw [take_more hy] at hz
    rcases List.mem_append.1 hz with hz | hz
    · exact ha z hz
    · obtain rfl : z = y := by simpa using hz
      exact hlt
  · cases e
theorem Putting.same {l O : List Ent} {x y : Ent} {k : Nat} (h : Putting l x k false O) (hy : l[k]? = some y) (he : y.key = x.key) : Putting l x (k + 1) true (O ++ [x]) := by
  rcases h with ⟨_, rfl, ha⟩ | ⟨e, _⟩
  · refine Or.inr ⟨rfl, ?_, y, by rw [take_more hy]; simp, by omega⟩
    rw [take_more hy, E.put_at ha [] (by omega), if_pos he]
  · cases e
theorem Putting.more {l O : List Ent} {x y : Ent} {k : Nat} (h : Putting l x k true O) (hy : l[k]? = some y) : Putting l x (k + 1) true (O ++ [y]) := by
  rcases h with ⟨e, _⟩ | ⟨_, rfl, z, hz, hzx⟩
  · cases e
  · refine Or.inr ⟨rfl, ?_, z, by rw [take_more hy]; simp [hz], hzx⟩
    rw [take_more hy, E.put_snoc ⟨z, hz, hzx⟩]
theorem Putting.great {l O : List Ent} {x y : Ent} {k : Nat} (h : Putting l x k true O) (hr : E.rising l) (hy : l[k]? = some y) : x.key < y.key := by
  rcases h with ⟨e, _⟩ | ⟨_, rfl, z, hz, hzx⟩
  · cases e
  · obtain ⟨i, hi, rfl⟩ := List.mem_iff_getElem.1 hz
    have hi2 : i < k := by rw [List.length_take] at hi; omega
    have := E.rising_at hr hi2 (x := (l.take k)[i]) (by rw [List.getElem_take]; exact List.getElem?_eq_getElem _) hy
    omega
end Go.Proofs.YtmbfldcmiabccaaGreatDoor

namespace Go.Proofs.YtmbfldcmiabccaaGreatDoor
set_option linter.unusedVariables false
set_option linter.unusedSimpArgs false
open Go.RowKit

theorem own_below {w w' : World} {base e size n : Nat} {v : Value} {xs : List Value} (h : w.ownsRow base e size v n xs) (hb : Below w.heap.size w w') : w'.ownsRow base e size v n xs := by
  refine ⟨h.1, ?_⟩
  rcases h.2 with h0 | ⟨g, cap, cur, hv, hbg, hg, rest⟩
  · exact .inl h0
  · exact .inr ⟨g, cap, cur, hv, hbg, (hb.block g (lt_of_block hg)).trans hg, rest⟩

noncomputable def rightB (l : List Ent) : Bool := open Classical in decide (E.right l)
theorem rightB_iff {l : List Ent} {b : Bool} (h : b = true ↔ E.right l) : b = rightB l := by
  unfold rightB
  by_cases hr : E.right l
  · rw [h.2 hr]; simp [hr]
  · cases b
    · simp [hr]
    · exact absurd (h.1 rfl) hr
theorem rightB_no {l : List Ent} (h : ¬ E.right l) : rightB l = false := (rightB_iff (b := false) ⟨(fun e => by cases e), fun hr => absurd hr h⟩).symm
theorem rightB_yes {l : List Ent} (h : E.right l) : rightB l = true := (rightB_iff (b := true) ⟨fun _ => h, fun _ => rfl⟩).symm
theorem rightB_out {l : List Ent} (h : rightB l = true) : E.right l := by
  by_cases hr : E.right l
  · exact hr
  · rw [rightB_no hr] at h; cases h
theorem rright_any (l : List Ent) (A : Option Addr) (n c B : Nat) (w : World) (h : Rd w B 3 A n (EC l)) (hB : B ≤ w.heap.size) (hn : n * 32 ≤ 140737488351232) :
    Calls Tryz.prog 51 #[.slice A n c] w fun e w' => e = .returned (.bool (rightB l)) ∧ Below w.heap.size w w' :=
  (rright_t l A n c B w h hB hn).mono fun e w' ⟨⟨b, he, hb⟩, hw⟩ => ⟨by rw [he, rightB_iff hb], hw⟩

end Go.Proofs.YtmbfldcmiabccaaGreatDoor

namespace Go.Proofs.YtmbfldcmiabccaaGreatDoor
set_option linter.unusedVariables false
set_option linter.unusedSimpArgs false
open Go.RowKit

end Go.Proofs.YtmbfldcmiabccaaGreatDoor

