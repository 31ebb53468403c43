/- The reference's Compare on digests. -/
import Derived.Test.YtoemefoppkgfaaaDRef
namespace Go.Proofs.Ytoemefoppkgfaaa
set_option linter.unusedVariables false
set_option linter.unusedSimpArgs false
open Go.RowKit

def Apart (u v : Value) : Prop := ∀ b, u.ownBlock = some b → v.ownBlock ≠ some b
theorem apart_l {u v : Value} (h : Apart u v) : u.ownBlock = none ∨ u.ownBlock ≠ v.ownBlock := by
  rcases hb : u.ownBlock with _ | b
  · exact Or.inl rfl
  · exact Or.inr fun e => h b hb e.symm
theorem apart_r {u v : Value} (h : Apart u v) : v.ownBlock = none ∨ v.ownBlock ≠ u.ownBlock := by
  rcases hb : v.ownBlock with _ | b
  · exact Or.inl rfl
  · exact Or.inr fun e => h b e.symm hb
theorem apart_ofl {u v : Value} (h : u.ownBlock = none ∨ u.ownBlock ≠ v.ownBlock) : Apart u v := fun b hb hv => by
  rcases h with h | h
  · rw [h] at hb; cases hb
  · exact h (hb.trans hv.symm)
theorem apart_ofr {u v : Value} (h : v.ownBlock = none ∨ v.ownBlock ≠ u.ownBlock) : Apart u v := fun b hb hv => by
  rcases h with h | h
  · rw [h] at hv; cases hv
  · exact h (hv.trans hb.symm)
theorem hrg4 {w w' : World} {v : Sv} (h : SRd w v) (hb : Below w.heap.size w w') : SRd w' v := h.belowH hb
/-- two lists of digests that were made -/
def MadeDD (W : World) (l l' : List Dg) (e : Ending) (w' : World) : Prop := ∃ A n c A' n' c', e = .returned (.tuple #[.slice A n c, .slice A' n' c']) ∧ w'.ownsRow W.heap.size 34 3 (.slice A n c) n (FC dcl l) ∧ w'.ownsRow W.heap.size 34 3 (.slice A' n' c') n' (FC dcl l') ∧ Below W.heap.size W w'

set_option maxHeartbeats 8000000 in
set_option maxRecDepth 20000 in
theorem rdcompare_any (U : Vw) (l : List Dg) (A : Option Addr) (n c : Nat) (w : World) (h : VRd w U) (hd : DRd w A n l) (hn : U.n ≤ 1000) (hnd : n ≤ 1000) (hfu : VFit U) :
    Calls Try.prog 14 #[vval U, .slice A n c] w (MadeDD w (D.wants U.view l 8) (D.gives U.view l 8)) := by
  obtain ⟨lv, Av, nv', cv⟩ := U
  have HFU := Lib.hid hfu
  simp only at hn
  clear hfu
  simp only [vval]
  go_enter Try.func14, Try.ntmps14
  go_wp2
  go_loopw [6, 7, 8] (fun s1 s2 i wr => ∃ (k m1 : Nat) (A1 : Option Addr) (c1 m2 : Nat) (A2 : Option Addr) (c2 : Nat), k ≤ 8 ∧ i = .int .i64 k ∧ s1 = .slice A1 m1 c1 ∧ s2 = .slice A2 m2 c2 ∧ m1 ≤ k ∧ m2 ≤ k ∧
      wr.ownsRow w.heap.size 34 3 (.slice A1 m1 c1) m1 (FC dcl (D.wants (Vw.view ⟨lv, Av, nv', cv⟩) l k)) ∧ wr.ownsRow w.heap.size 34 3 (.slice A2 m2 c2) m2 (FC dcl (D.gives (Vw.view ⟨lv, Av, nv', cv⟩) l k)) ∧ Apart (.slice A1 m1 c1) (.slice A2 m2 c2) ∧ Below w.heap.size w wr) (fun _ _ i _ => 8 - (intOf i).toNat)
  case atStart => exact ⟨0, 0, none, 0, 0, none, 0, by omega, rfl, rfl, rfl, by omega, by omega, World.ownsRow_nil _ _ _ _, World.ownsRow_nil _ _ _ _, (fun b hb => by cases hb), Below.refl _ _⟩
  case round =>
    obtain ⟨k, m1, A1, c1, m2, A2, c2, hk, rfl, rfl, rfl, hm1, hm2, hw1, hg1, hap, hbel⟩ := hrel
    have hbs := hbel.size
    by_cases hlt : k < 8
    · have hk0 : (0 : Int) ≤ (k : Int) := by omega
      go_wp2_with fail
      refine (rvget_any ⟨lv, Av, nv', cv⟩ (k : Int) wr (h.belowH hbel) (by show nv' ≤ _; omega) HFU.out).mono ?_
      rintro e w2 ⟨⟨sg, Ag, ng, cg⟩, rfl, hsg, hrg, hb2⟩
      simp only at hsg
      have hng : ng ≤ 4000 := by
        have hq : sg.apps.length = ng := hrg.len
        have hq2 := vget_short h HFU.out (V.get (Vw.view ⟨lv, Av, nv', cv⟩) k) rfl
        rw [← hsg] at hq2
        omega
      have HSG := Lib.hid hsg
      clear hsg
      have hbel2 := hbel.trans (hb2.mono hbs)
      have hw2 := own_below hw1 hb2
      have hg2 := own_below hg1 hb2
      clear hb2 hw1 hg1 hbel
      simp only [sv]
      have S3 := Box.new w2 #[.int .i64 sg.gen, .int .i64 sg.beat, .slice Ag ng cg] 37
      have hbel3 := hbel2.alloc hbel2.size (.cells #[.int .i64 sg.gen, .int .i64 sg.beat, .slice Ag ng cg] 37)
      have hw3 := hw2.alloc (.cells #[.int .i64 sg.gen, .int .i64 sg.beat, .slice Ag ng cg] 37)
      have hg3 := hg2.alloc (.cells #[.int .i64 sg.gen, .int .i64 sg.beat, .slice Ag ng cg] 37)
      have hr3 := hrg.allocH (.cells #[.int .i64 sg.gen, .int .i64 sg.beat, .slice Ag ng cg] 37)
      have hbs2 := hbel2.size
      go_wp2_with fail
      have hs3 : w2.heap.size < (w2.alloc (.cells #[.int .i64 sg.gen, .int .i64 sg.beat, .slice Ag ng cg] 37)).heap.size := by simp
      clear hbel2 hw2 hg2 hrg
      generalize w2.alloc (.cells #[.int .i64 sg.gen, .int .i64 sg.beat, .slice Ag ng cg] 37) = w3 at *
      refine (rdfind_any l (k : Int) A n c w3 (hd.belowH hbel3) (by omega)).mono ?_
      rintro e w4 ⟨rfl, hb4⟩
      have hbel4 := hbel3.trans (hb4.mono (by omega))
      have hw4 := own_below hw3 hb4
      have hg4 := own_below hg3 hb4
      have hr4 := hrg4 hr3 hb4
      have S4 := S3.below hb4 hs3
      have hs4 := S4.lt
      clear hb4 hbel3 hw3 hg3 hr3 S3 hs3
      simp only [findV, dgv]
      generalize hdd : (D.find l (k : Int)).getD ⟨0, 0, 0⟩ = dd
      replace hbel4 := hbel4.alloc hbel4.size (.cells #[.int .i64 dd.node, .int .i64 dd.gen, .int .i64 dd.ver] 34)
      replace hw4 := hw4.alloc (.cells #[.int .i64 dd.node, .int .i64 dd.gen, .int .i64 dd.ver] 34)
      replace hg4 := hg4.alloc (.cells #[.int .i64 dd.node, .int .i64 dd.gen, .int .i64 dd.ver] 34)
      replace hr4 := hr4.allocH (.cells #[.int .i64 dd.node, .int .i64 dd.gen, .int .i64 dd.ver] 34)
      replace S4 := S4.alloc (.cells #[.int .i64 dd.node, .int .i64 dd.gen, .int .i64 dd.ver] 34)
      have D4 := Box.new w4 #[.int .i64 dd.node, .int .i64 dd.gen, .int .i64 dd.ver] 34
      have s0 := S4.at 0 rfl
      have s1 := S4.at 1 rfl
      have s2 := S4.at 2 rfl
      have HDD := Lib.hid hdd
      clear hdd
      go_wp2_with fail
      have hs5 : w4.heap.size < (w4.alloc (.cells #[.int .i64 dd.node, .int .i64 dd.gen, .int .i64 dd.ver] 34)).heap.size := by simp
      generalize w4.alloc (.cells #[.int .i64 dd.node, .int .i64 dd.gen, .int .i64 dd.ver] 34) = w5 at *
      refine (rstop_any ⟨sg, Ag, ng, cg⟩ w5 hr4 (by show ng * 32 ≤ _; omega)).mono ?_
      rintro e w6 ⟨rfl, hb6⟩
      replace hbel4 := hbel4.trans (hb6.mono hbel4.size)
      replace hw4 := own_below hw4 hb6
      replace hg4 := own_below hg4 hb6
      have S6 := S4.below hb6 (by omega)
      have D6 := D4.below hb6 (by omega)
      have hbs4 := hbel4.size
      clear s0 s1 s2 S4 D4 hr4 hb6
      have s0 := S6.at 0 rfl
      have s1 := S6.at 1 rfl
      have d0 := D6.at 0 rfl
      have d1 := D6.at 1 rfl
      have d2 := D6.at 2 rfl
      simp only
      rcases hg : V.get (Vw.view ⟨lv, Av, nv', cv⟩) (k : Int) with _ | st <;> rcases hf : D.find l (k : Int) with _ | d
      · skip
        have HW : Hid (D.want (k : Int) (V.get (Vw.view ⟨lv, Av, nv', cv⟩) k) (D.find l k) = []) := Lib.hid (by rw [hg, hf]; rfl)
        have HGV : Hid (D.give (k : Int) (V.get (Vw.view ⟨lv, Av, nv', cv⟩) k) (D.find l k) = []) := Lib.hid (by rw [hg, hf]; rfl)
        clear hg hf
        simp only [Option.isSome]
        go_wp2
        go_roundw
        case rel => exact ⟨k + 1, m1, A1, c1, m2, A2, c2, by omega, by go_num, rfl, rfl, by omega, by omega, by rw [D.wants_succ, HW.out, List.append_nil]; exact hw4, by rw [D.gives_succ, HGV.out, List.append_nil]; exact hg4, hap, hbel4⟩
        case measure => simp [intOf]; omega
      · skip
        obtain rfl : d = dd := by have hq := HDD.out; rw [hf] at hq; exact hq
        have HW : Hid (D.want (k : Int) (V.get (Vw.view ⟨lv, Av, nv', cv⟩) k) (D.find l k) = [⟨k, d.gen, 0⟩]) := Lib.hid (by rw [hg, hf]; rfl)
        have HGV : Hid (D.give (k : Int) (V.get (Vw.view ⟨lv, Av, nv', cv⟩) k) (D.find l k) = []) := Lib.hid (by rw [hg, hf]; rfl)
        clear hg hf
        simp only [Option.isSome]
        go_wp2_with (at_builtin; refine pushS_law (f := dcl) (y := ⟨k, d.gen, 0⟩) dgT dcl_len dcl_one rfl (.tmp 52) (.tmp 57) rfl w.heap.size rfl rfl rfl hw4 (by omega) (by omega) hbs4 ?_; rintro A5 c5 w5 hown5 hb5 hsp; obtain ⟨hg5, hap5⟩ := hsp hg4 (apart_r hap); clear hsp hw4 hg4)
        go_roundw
        case rel =>
          refine ⟨k + 1, m1 + 1, A5, c5, m2, A2, c2, by omega, by go_num, rfl, rfl, by omega, by omega, ?_, ?_, apart_ofr hap5, hbel4.trans hb5⟩
          · rw [D.wants_succ, HW.out]; exact hown5
          · rw [D.gives_succ, HGV.out, List.append_nil]; exact hg5
        case measure => simp [intOf]; omega
      · skip
        obtain rfl : sg = st := by have hq := HSG.out; rw [hg] at hq; exact hq
        have HW : Hid (D.want (k : Int) (V.get (Vw.view ⟨lv, Av, nv', cv⟩) k) (D.find l k) = []) := Lib.hid (by rw [hg, hf]; rfl)
        have HGV : Hid (D.give (k : Int) (V.get (Vw.view ⟨lv, Av, nv', cv⟩) k) (D.find l k) = [⟨k, sg.gen, 0⟩]) := Lib.hid (by rw [hg, hf]; rfl)
        clear hg hf
        simp only [Option.isSome]
        go_wp2_with (at_builtin; refine pushS_law (f := dcl) (y := ⟨k, sg.gen, 0⟩) dgT dcl_len dcl_one rfl (.tmp 69) (.tmp 74) rfl w.heap.size rfl rfl rfl hg4 (by omega) (by omega) hbs4 ?_; rintro A5 c5 w5 hown5 hb5 hsp; obtain ⟨hw5, hap5⟩ := hsp hw4 (apart_l hap); clear hsp hw4 hg4)
        go_roundw
        case rel =>
          refine ⟨k + 1, m1, A1, c1, m2 + 1, A5, c5, by omega, by go_num, rfl, rfl, by omega, by omega, ?_, ?_, apart_ofl hap5, hbel4.trans hb5⟩
          · rw [D.wants_succ, HW.out, List.append_nil]; exact hw5
          · rw [D.gives_succ, HGV.out]; exact hown5
        case measure => simp [intOf]; omega
      · skip
        obtain rfl : sg = st := by have hq := HSG.out; rw [hg] at hq; exact hq
        obtain rfl : d = dd := by have hq := HDD.out; rw [hf] at hq; exact hq
        simp only [Option.isSome]
        by_cases x1 : sg.gen < d.gen
        · skip
          have HW : Hid (D.want (k : Int) (V.get (Vw.view ⟨lv, Av, nv', cv⟩) k) (D.find l k) = [⟨k, d.gen, 0⟩]) := Lib.hid (by rw [hg, hf]; simp [D.want, D.give, x1])
          have HGV : Hid (D.give (k : Int) (V.get (Vw.view ⟨lv, Av, nv', cv⟩) k) (D.find l k) = []) := Lib.hid (by rw [hg, hf]; simp [D.want, D.give, x1])
          clear hg hf
          go_wp2_with (at_builtin; refine pushS_law (f := dcl) (y := ⟨k, d.gen, 0⟩) dgT dcl_len dcl_one rfl (.tmp 52) (.tmp 57) rfl w.heap.size rfl rfl rfl hw4 (by omega) (by omega) hbs4 ?_; rintro A5 c5 w5 hown5 hb5 hsp; obtain ⟨hg5, hap5⟩ := hsp hg4 (apart_r hap); clear hsp hw4 hg4)
          go_roundw
          case rel =>
            refine ⟨k + 1, m1 + 1, A5, c5, m2, A2, c2, by omega, by go_num, rfl, rfl, by omega, by omega, ?_, ?_, apart_ofr hap5, hbel4.trans hb5⟩
            · rw [D.wants_succ, HW.out]; exact hown5
            · rw [D.gives_succ, HGV.out, List.append_nil]; exact hg5
          case measure => simp [intOf]; omega
        · by_cases x2 : d.gen < sg.gen
          · skip
            have HW : Hid (D.want (k : Int) (V.get (Vw.view ⟨lv, Av, nv', cv⟩) k) (D.find l k) = []) := Lib.hid (by rw [hg, hf]; simp [D.want, D.give, x1, x2])
            have HGV : Hid (D.give (k : Int) (V.get (Vw.view ⟨lv, Av, nv', cv⟩) k) (D.find l k) = [⟨k, sg.gen, 0⟩]) := Lib.hid (by rw [hg, hf]; simp [D.want, D.give, x1, x2])
            clear hg hf
            go_wp2_with (at_builtin; refine pushS_law (f := dcl) (y := ⟨k, sg.gen, 0⟩) dgT dcl_len dcl_one rfl (.tmp 69) (.tmp 74) rfl w.heap.size rfl rfl rfl hg4 (by omega) (by omega) hbs4 ?_; rintro A5 c5 w5 hown5 hb5 hsp; obtain ⟨hw5, hap5⟩ := hsp hw4 (apart_l hap); clear hsp hw4 hg4)
            go_roundw
            case rel =>
              refine ⟨k + 1, m1, A1, c1, m2 + 1, A5, c5, by omega, by go_num, rfl, rfl, by omega, by omega, ?_, ?_, apart_ofl hap5, hbel4.trans hb5⟩
              · rw [D.wants_succ, HW.out, List.append_nil]; exact hw5
              · rw [D.gives_succ, HGV.out]; exact hown5
            case measure => simp [intOf]; omega
          · by_cases x3 : S.top sg < d.ver
            · skip
              have HW : Hid (D.want (k : Int) (V.get (Vw.view ⟨lv, Av, nv', cv⟩) k) (D.find l k) = [⟨k, sg.gen, S.top sg⟩]) := Lib.hid (by rw [hg, hf]; simp [D.want, D.give, x1, x2, x3])
              have HGV : Hid (D.give (k : Int) (V.get (Vw.view ⟨lv, Av, nv', cv⟩) k) (D.find l k) = []) := Lib.hid (by rw [hg, hf]; simp [D.want, D.give, x1, x2, x3])
              clear hg hf
              go_wp2_with (at_builtin; refine pushS_law (f := dcl) (y := ⟨k, sg.gen, S.top sg⟩) dgT dcl_len dcl_one rfl (.tmp 81) (.tmp 87) rfl w.heap.size rfl rfl rfl hw4 (by omega) (by omega) hbs4 ?_; rintro A5 c5 w5 hown5 hb5 hsp; obtain ⟨hg5, hap5⟩ := hsp hg4 (apart_r hap); clear hsp hw4 hg4)
              go_roundw
              case rel =>
                refine ⟨k + 1, m1 + 1, A5, c5, m2, A2, c2, by omega, by go_num, rfl, rfl, by omega, by omega, ?_, ?_, apart_ofr hap5, hbel4.trans hb5⟩
                · rw [D.wants_succ, HW.out]; exact hown5
                · rw [D.gives_succ, HGV.out, List.append_nil]; exact hg5
              case measure => simp [intOf]; omega
            · by_cases x4 : d.ver < S.top sg
              · skip
                have HW : Hid (D.want (k : Int) (V.get (Vw.view ⟨lv, Av, nv', cv⟩) k) (D.find l k) = []) := Lib.hid (by rw [hg, hf]; simp [D.want, D.give, x1, x2, x3, x4])
                have HGV : Hid (D.give (k : Int) (V.get (Vw.view ⟨lv, Av, nv', cv⟩) k) (D.find l k) = [⟨k, sg.gen, d.ver⟩]) := Lib.hid (by rw [hg, hf]; simp [D.want, D.give, x1, x2, x3, x4])
                clear hg hf
                go_wp2_with (at_builtin; refine pushS_law (f := dcl) (y := ⟨k, sg.gen, d.ver⟩) dgT dcl_len dcl_one rfl (.tmp 94) (.tmp 101) rfl w.heap.size rfl rfl rfl hg4 (by omega) (by omega) hbs4 ?_; rintro A5 c5 w5 hown5 hb5 hsp; obtain ⟨hw5, hap5⟩ := hsp hw4 (apart_l hap); clear hsp hw4 hg4)
                go_roundw
                case rel =>
                  refine ⟨k + 1, m1, A1, c1, m2 + 1, A5, c5, by omega, by go_num, rfl, rfl, by omega, by omega, ?_, ?_, apart_ofl hap5, hbel4.trans hb5⟩
                  · rw [D.wants_succ, HW.out, List.append_nil]; exact hw5
                  · rw [D.gives_succ, HGV.out]; exact hown5
                case measure => simp [intOf]; omega
              · skip
                have HW : Hid (D.want (k : Int) (V.get (Vw.view ⟨lv, Av, nv', cv⟩) k) (D.find l k) = []) := Lib.hid (by rw [hg, hf]; simp [D.want, D.give, x1, x2, x3, x4])
                have HGV : Hid (D.give (k : Int) (V.get (Vw.view ⟨lv, Av, nv', cv⟩) k) (D.find l k) = []) := Lib.hid (by rw [hg, hf]; simp [D.want, D.give, x1, x2, x3, x4])
                clear hg hf
                go_wp2
                go_roundw
                case rel => exact ⟨k + 1, m1, A1, c1, m2, A2, c2, by omega, by go_num, rfl, rfl, by omega, by omega, by rw [D.wants_succ, HW.out, List.append_nil]; exact hw4, by rw [D.gives_succ, HGV.out, List.append_nil]; exact hg4, hap, hbel4⟩
                case measure => simp [intOf]; omega
    · obtain rfl : k = 8 := by omega
      go_wp2
      go_ret2
      exact ⟨A1, m1, c1, A2, m2, c2, rfl, hw1, hg1, hbel⟩
end Go.Proofs.Ytoemefoppkgfaaa
