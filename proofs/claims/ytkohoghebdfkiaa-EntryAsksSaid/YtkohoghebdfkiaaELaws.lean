/- EntryOvers walks. -/
import Derived.Test.YtkohoghebdfkiaaEAlive
import Derived.Test.YtkohoghebdfkiaaERows
namespace Go.Proofs.Ytkohoghebdfkiaa
set_option linter.unusedVariables false
set_option linter.unusedSimpArgs false
open Go.RowKit

theorem below_of_drew {w w' : World} {q : Nat} (h : w' = w.drewN q) : Below w.heap.size w w' := by rw [h]; exact below_dn (Below.refl _ _) q
theorem Rd.allocH {w : World} {size n : Nat} {A : Option Addr} {xs : List Value} (h : Rd w w.heap.size size A n xs) (o : Obj) : Rd (w.alloc o) (w.alloc o).heap.size size A n xs := (h.alloc (Nat.le_refl _) o).more (by simp)
theorem Rd.drewH {w : World} {size n : Nat} {A : Option Addr} {xs : List Value} (h : Rd w w.heap.size size A n xs) : Rd w.drew w.drew.heap.size size A n xs := h
theorem great_small {l : List Ent} {n : Nat} (h : E.great l = false) (hl : l.length = n) : n ≤ 4000 := by
  have := of_decide_eq_false h
  omega
theorem overB_iff {l r : List Ent} : overB l r = true ↔ E.over l r := by unfold overB E.over; exact decide_eq_true_iff
theorem overB_self {l : List Ent} (h : E.rising l) : overB l l = true := overB_iff.2 (E.over_self h)
theorem overB_nil (l : List Ent) : overB l [] = true := overB_iff.2 (E.over_nil l)
theorem overB_get {a b : List Ent} (ha : E.rising a) (hb : E.rising b) (h : overB a b = true) {k : Nat} {y : Ent} (hy : b[k]? = some y) : ∃ x, E.get a y.key = some x ∧ y.ver ≤ x.ver :=
  E.over_get ha hb (overB_iff.1 h) (List.mem_of_getElem? hy)

set_option maxHeartbeats 4000000 in
set_option maxRecDepth 100000 in
theorem law_EntryOvers (A0 : Option Addr) (n0 c0 : Nat) (l0 : List Ent) (A1 : Option Addr) (n1 c1 : Nat) (l1 : List Ent) (W : World) (t0 : TableIn W A0 n0 c0 l0) (t1 : TableIn W A1 n1 c1 l1) :
    Calls Try.prog 7 #[.slice A0 n0 c0, .slice A1 n1 c1] W fun e w' => e = .returned (.bool true) ∧ Below W.heap.size W w' := by
  obtain ⟨R0, _, _, hn0, hv0⟩ := t0
  obtain ⟨R1, _, _, hn1, hv1⟩ := t1
  have HL0 := Lib.hid R0.lenE
  have HL1 := Lib.hid R1.lenE
  have HV0 := Lib.hid (fun x hx => (hv0 x hx).1)
  have HV1 := Lib.hid (fun x hx => (hv1 x hx).1)
  clear hv0 hv1
  go_enter Try.func7, Try.ntmps7
  go_wp2_with fail
  refine (alive_any W).mono ?_
  rintro e w1 ⟨rfl, b1⟩
  go_wp2_with fail
  refine (rgreat_any l0 A0 n0 c0 _ w1 (R0.below b1) (by omega) HV0.out).mono ?_
  rintro e w2 ⟨rfl, rfl⟩
  rcases hg0 : E.great l0
  · go_wp2_with fail
    refine (rgreat_any l1 A1 n1 c1 _ _ (R1.below b1) (by omega) HV1.out).mono ?_
    rintro e w2 ⟨rfl, rfl⟩
    rcases hg1 : E.great l1
    · have hs0 := great_small hg0 HL0.out
      have hs1 := great_small hg1 HL1.out
      clear hg0 hg1
      go_wp2_with fail
      refine (rright_any l0 A0 n0 c0 _ _ (R0.below b1) b1.size hn0).mono ?_
      rintro e w2 ⟨rfl, hb⟩
      have b2 := b1.trans (hb.mono b1.size)
      clear hb b1
      rcases hr0 : rightB l0
      · go_wp2
        go_ret
        exact ⟨rfl, b2⟩
      · have HR0 := Lib.hid (rightB_out hr0).2
        clear hr0
        go_wp2_with fail
        refine (rright_any l1 A1 n1 c1 _ _ (R1.below b2) b2.size hn1).mono ?_
        rintro e w3 ⟨rfl, hb⟩
        have b3 := b2.trans (hb.mono b2.size)
        clear hb b2
        rcases hr1 : rightB l1
        · go_wp2
          go_ret
          exact ⟨rfl, b3⟩
        · have HR1 := Lib.hid (rightB_out hr1).2
          clear hr1
          go_wp2_with fail
          refine (over_any l0 l1 A0 A1 n0 n1 c0 c1 _ _ _ (R0.below b3) b3.size (R1.below b3) b3.size (by omega) (by omega) HR0.out HR1.out).mono ?_
          rintro e w4 ⟨rfl, hb⟩
          have b4 := b3.trans (hb.mono b3.size)
          clear hb b3
          rcases ho : overB l0 l1
          · have HO := Lib.hid ho
            have hne : l0 ≠ l1 := fun e => by rw [← e, overB_self HR0.out] at ho; cases ho
            have HNE := Lib.hid hne
            clear hne ho
            go_wp2_with fail
            refine (over_any l0 l0 A0 A0 n0 n0 c0 c0 _ _ _ (R0.below b4) b4.size (R0.below b4) b4.size (by omega) (by omega) HR0.out HR0.out).mono ?_
            rw [overB_self HR0.out]
            rintro e w5 ⟨rfl, hb⟩
            have b5 := b4.trans (hb.mono b4.size)
            clear hb b4
            go_wp2_with fail
            refine (over_any l0 [] A0 none n0 0 c0 0 _ _ _ (R0.below b5) b5.size (Rd.zero _ 0 _ _) (Nat.zero_le _) (by omega) (by omega) HR0.out trivial).mono ?_
            rw [overB_nil]
            rintro e w6 ⟨rfl, hb⟩
            have b6 := b5.trans (hb.mono b5.size)
            clear hb b5
            go_wp2_with fail
            refine (over_any l0 l1 A0 A1 n0 n1 c0 c1 _ _ _ (R0.below b6) b6.size (R1.below b6) b6.size (by omega) (by omega) HR0.out HR1.out).mono ?_
            rw [HO.out]
            rintro e w7 ⟨rfl, hb⟩
            have b7 := b6.trans (hb.mono b6.size)
            clear hb b6
            go_wp2_with fail
            refine (rtsame_any l0 l1 A0 A1 n0 n1 c0 c1 _ _ _ (R0.below b7) (R1.below b7) hn0 hn1).mono ?_
            rw [decide_eq_false HNE.out]
            rintro e w8 ⟨rfl, q, rfl⟩
            go_wp2
            go_ret
            exact ⟨rfl, below_dn b7 q⟩
          · have HO := Lib.hid ho
            clear ho
            go_wp2
            go_loopw [5] (fun i wr => ∃ k : Nat, k ≤ n1 ∧ i = .int .i64 k ∧ Below W.heap.size W wr) (fun i _ => n1 - (intOf i).toNat)
            case atStart => exact ⟨0, by omega, rfl, b4⟩
            case round =>
              obtain ⟨k, hk, rfl, br⟩ := hrel
              have hbs := br.size
              by_cases hlt : k < n1
              · obtain ⟨b, o, y, e, hb, hy, d0, d1, d2⟩ := (R1.below br).atE hlt
                subst e
                obtain ⟨x, hx, hver⟩ := overB_get HR0.out HR1.out HO.out hy
                have hk0 : (0 : Int) ≤ (k : Int) := by omega
                have tv : decide (x.ver < y.ver) = false := decide_eq_false (by omega)
                have HX := Lib.hid hx
                clear hx hy
                go_wp2_with fail
                refine (get_any l0 y.key A0 n0 c0 _ wr (R0.below br) hbs hn0).mono ?_
                rw [HX.out]
                rintro e w5 ⟨rfl, hb5⟩
                have e1 := (hb5.cell (p := ⟨b, o + k * 3 + 1, none⟩) (by show b < wr.heap.size; omega)).trans d1
                have b5 := br.trans (hb5.mono hbs)
                have b6 := b5.alloc b5.size (.cells #[.int .i64 x.ver, .int .i64 x.ver, .string (strB x.val)] 26)
                have f1 := (World.cell?_alloc_lt w5 (.cells #[.int .i64 x.key, .int .i64 x.ver, .string (strB x.val)] 26) ⟨b, o + k * 3 + 1, none⟩ (by have := b5.size; show b < w5.heap.size; omega)).trans e1
                have B5 := Lib.hid b5
                clear hb5 d0 d1 d2 e1 b5 b6
                simp only [getV, ev, Option.isSome]
                go_wp2
                go_quiet (fail)
                go_wp2
                go_roundw
                case rel => exact ⟨k + 1, by omega, by go_num, below_dn (B5.out.alloc B5.out.size _) _⟩
                case measure => simp [intOf]; omega
              · have BBr := br
                go_wp2_with fail
                refine (over_any l0 l0 A0 A0 n0 n0 c0 c0 _ _ _ (R0.below br) br.size (R0.below br) br.size (by omega) (by omega) HR0.out HR0.out).mono ?_
                rw [overB_self HR0.out]
                rintro e w5 ⟨rfl, hb⟩
                have b5 := br.trans (hb.mono br.size)
                clear hb
                go_wp2_with fail
                refine (over_any l0 [] A0 none n0 0 c0 0 _ _ _ (R0.below b5) b5.size (Rd.zero _ 0 _ _) (Nat.zero_le _) (by omega) (by omega) HR0.out trivial).mono ?_
                rw [overB_nil]
                rintro e w6 ⟨rfl, hb⟩
                have b6 := b5.trans (hb.mono b5.size)
                clear hb b5
                go_wp2_with fail
                refine (over_any l0 l1 A0 A1 n0 n1 c0 c1 _ _ _ (R0.below b6) b6.size (R1.below b6) b6.size (by omega) (by omega) HR0.out HR1.out).mono ?_
                rw [HO.out]
                rintro e w7 ⟨rfl, hb⟩
                have b7 := b6.trans (hb.mono b6.size)
                clear hb b6
                go_wp2_with fail
                refine (over_any l1 l0 A1 A0 n1 n0 c1 c0 _ _ _ (R1.below b7) b7.size (R0.below b7) b7.size (by omega) (by omega) HR1.out HR0.out).mono ?_
                rintro e w8 ⟨rfl, hb⟩
                have b8 := b7.trans (hb.mono b7.size)
                clear hb b7
                rcases ho2 : overB l1 l0
                · have hne : l0 ≠ l1 := fun e => by rw [← e, overB_self HR0.out] at ho2; cases ho2
                  have HNE := Lib.hid hne
                  clear hne ho2
                  go_wp2_with fail
                  refine (rtsame_any l0 l1 A0 A1 n0 n1 c0 c1 _ _ _ (R0.below b8) (R1.below b8) hn0 hn1).mono ?_
                  rw [decide_eq_false HNE.out]
                  rintro e w9 ⟨rfl, q, rfl⟩
                  go_wp2
                  go_ret
                  exact ⟨rfl, below_dn b8 q⟩
                · have heq : l0 = l1 := E.over_antisymm HR0.out HR1.out (overB_iff.1 HO.out) (overB_iff.1 ho2)
                  have HNE := Lib.hid heq
                  clear heq ho2
                  go_wp2_with fail
                  refine (rtsame_any l0 l1 A0 A1 n0 n1 c0 c1 _ _ _ (R0.below b8) (R1.below b8) hn0 hn1).mono ?_
                  rw [decide_eq_true HNE.out]
                  rintro e w9 ⟨rfl, q, rfl⟩
                  go_wp2
                  go_ret
                  exact ⟨rfl, below_dn b8 q⟩
    · go_wp2
      go_ret
      exact ⟨rfl, b1⟩
  · go_wp2
    go_ret
    exact ⟨rfl, b1⟩
end Go.Proofs.Ytkohoghebdfkiaa
