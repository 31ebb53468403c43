/- OLaw4 (merged). -/
import Derived.Deep.QuietTactic
import Derived.Deep.RegionHeld3
import Derived.Deep.DeepCutAuto
import Derived.Test.YtmbfldcmiabccaaDoorJF21
import Derived.Test.YtmbfldcmiabccaaDoorJORows
namespace Go.Proofs.YtmbfldcmiabccaaDoor
set_option linter.unusedVariables false
set_option linter.unusedSimpArgs false
open Go.RowKit
def HostG (s : Sn) (y : Int) (wk : World) (s7 : Value) (wx : World) : Prop := ∃ (gk : Nat) (gg gb : Int) (Ag : Option Addr) (ng cg : Nat) (ga : List Ent), s7 = .pointer (some ⟨gk, 0, none⟩) ∧ wk.heap.size ≤ gk ∧ Box wx gk 35 #[.int .i64 gg, .int .i64 gb, .slice Ag ng cg] ∧ SRd wx ⟨⟨gg, gb, ga⟩, Ag, ng, cg⟩ ∧ Hid (ga = Zo.apps s.v.view y ∧ ga.length ≤ 4000) ∧ Below wk.heap.size wk wx
set_option maxHeartbeats 16000000 in
set_option maxRecDepth 40000 in
theorem law_ZoneHosts (s : Sn) (W : World) (w0 : SnIn W s) :
    Calls Tryd.prog 5 #[snval s] W fun e w' => e = .returned (.bool true) ∧ Below W.heap.size W w' := by
  have SR : SnRd W s := ⟨w0.view.1, w0.al⟩
  have LK : Hid (s.v.n * 48 ≤ 140737488351232 ∧ (∀ x ∈ s.v.l, x.v.n * 32 ≤ 140737488351232 ∧ ∀ y ∈ x.v.s.apps, y.val.length ≤ 140737488351232)) := Lib.hid ⟨w0.view.2.2.1, fun x hx => (w0.view.2.2.2 x hx).1⟩
  have HC := Lib.hid (And.intro w0.cap1 w0.cap2)
  have X := Box.new W (sncs s) 25
  have b := (Below.refl W.heap.size W).alloc (Nat.le_refl _) (.cells (sncs s) 25)
  replace SR := SR.alloc (.cells (sncs s) 25)
  clear w0
  simp only [snval, sncs] at X SR b ⊢
  have x0 := X.at 0 rfl
  have x1 := X.at 1 rfl
  have x2 := X.at 2 rfl
  go_enter Tryd.func5, Tryd.ntmps5
  go_wp2_with fail
  generalize W.alloc (.cells #[.slice s.v.A s.v.n s.v.c, .slice s.B s.m s.d, .string (strB s.dom)] 25) = wa at *
  refine (oalive_any wa).mono ?_
  rintro e v1 ⟨rfl, hb⟩
  replace X := X.belowH hb
  replace SR := SR.belowH hb
  replace b := b.trans (hb.mono b.size)
  clear hb
  clear x0 x1 x2
  have x0 := X.at 0 rfl
  have x1 := X.at 1 rfl
  have x2 := X.at 2 rfl
  go_wp2_with fail
  refine (rogreat_any s v1 ⟨SR, LK.out.1, LK.out.2⟩).mono ?_
  rintro e v2 ⟨rfl, hb⟩
  replace X := X.belowH hb
  replace SR := SR.belowH hb
  replace b := b.trans (hb.mono b.size)
  clear hb
  clear x0 x1 x2
  have x0 := X.at 0 rfl
  have x1 := X.at 1 rfl
  have x2 := X.at 2 rfl
  rcases hg : SnGreat s
  rotate_left
  · skip
    go_wp2
    go_ret
    exact ⟨rfl, b⟩
  obtain ⟨g1, g2, g3, g4⟩ := ogreat_small SR hg
  clear hg
  go_wp2_with fail
  refine (rvright_any s.v v2 SR.1 (by omega) g2).mono ?_
  rintro e v3 ⟨rfl, hb⟩
  replace X := X.belowH hb
  replace SR := SR.belowH hb
  replace b := b.trans (hb.mono b.size)
  clear hb
  clear x0 x1 x2
  have x0 := X.at 0 rfl
  have x1 := X.at 1 rfl
  have x2 := X.at 2 rfl
  rcases hr : vrightB s.v.view
  · skip
    go_wp2
    go_ret
    exact ⟨rfl, b⟩
  have HA : Hid (SnArg s) := Lib.hid ⟨⟨⟨by omega, g2, by omega⟩, fun x hx y hy => by
    obtain ⟨z, hz, rfl⟩ := List.mem_map.1 hx
    exact (LK.out.2 z hz).2 y hy, by omega⟩, vrightB_out hr, HC.out.1, HC.out.2⟩
  have HD := Lib.hid g4
  have HN1 := Lib.hid g1
  obtain ⟨P, Z, hP⟩ : ∃ P, ZCon s P ∧ P v3 := ⟨_, zcon_of HA.out, SR⟩
  clear hr g1 g2 g3 g4 SR LK HC
  go_wp2_with fail
  refine (Z.counts hP).mono ?_
  rintro e w4 ⟨A1, n1, c1, rfl, hl1, R1, _, hb⟩
  replace X := X.belowH hb
  replace hP := Z.sb hP hb
  replace b := b.trans (hb.mono b.size)
  clear hb
  clear x0 x1 x2
  have x0 := X.at 0 rfl
  have x1 := X.at 1 rfl
  have x2 := X.at 2 rfl
  obtain ⟨cs, ecs⟩ : ∃ z, Zo.counts s.sc = z := ⟨_, rfl⟩
  rw [ecs] at hl1 R1
  have HLV : Hid (n1 ≤ s.v.n ∧ s.v.n ≤ 40) := Lib.hid ⟨by have h1 := Zo.counts_len s.sc; have h2 := (Z.rd hP).1.viewlen; have h4 : s.sc.view.length = s.v.view.length := rfl; rw [ecs] at h1; omega, HN1.out⟩
  have CS := Lib.hid ecs
  have HL1 := Lib.hid hl1
  have hlt0 := X.lt
  clear hl1 ecs x0 x1 x2
  go_wp2
  go_loopw [4] (fun i wr => ∃ k : Nat, k ≤ n1 ∧ i = .int .i64 (k : Int) ∧ Below w4.heap.size w4 wr) (fun i _ => n1 - (intOf i).toNat)
  case atStart => exact ⟨0, Nat.zero_le _, rfl, Below.refl _ _⟩
  case round =>
    obtain ⟨k, hk, rfl, bl⟩ := hrel
    have hk0 : (0 : Int) ≤ (k : Int) := by omega
    replace X := X.belowH bl
    replace hP := Z.sb hP bl
    replace b := b.trans (bl.mono b.size)
    replace R1 := R1.belowH bl
    have x0 := X.at 0 rfl
    have x1 := X.at 1 rfl
    have x2 := X.at 2 rfl
    by_cases hlt : k < n1
    rotate_left
    · have g1 : decide ((k : Int) < (n1 : Int)) = false := decide_eq_false (by omega)
      have g1' : decide (k < n1) = false := decide_eq_false hlt
      have g2 : decide ((n1 : Int) ≤ (s.v.n : Int)) = true := decide_eq_true (by have := HLV.out.1; omega)
      have g2' : decide (n1 ≤ s.v.n) = true := decide_eq_true HLV.out.1
      go_wp2
      go_ret
      exact ⟨rfl, b⟩
    have g1 : decide ((k : Int) < (n1 : Int)) = true := decide_eq_true (by omega)
    obtain ⟨bq, oq, y, rfl, hbq, hy, c0⟩ := R1.atI hlt
    have HY : Hid (y ∈ Zo.counts s.sc) := Lib.hid (by rw [CS.out]; exact List.mem_of_getElem? hy)
    obtain ⟨⟨th, okh⟩, eth⟩ : ∃ z, Zo.hostN s.dom y = z := ⟨_, rfl⟩
    have CHo := Lib.hid (fun W (h : P W) => Z.host y h)
    rw [eth] at CHo
    have HTH : Hid (th.length ≤ 255) := Lib.hid (by have h1 := hostN_short s.dom y; rw [eth] at h1; exact h1)
    have EH := Lib.hid eth
    have BL := Lib.hid bl
    clear hy eth R1 bl
    go_upto_region 9 with fail
    replace X := X.drew
    replace hP := Z.sb hP ((Below.refl _ _).drew)
    replace b := b.drew
    clear x0 x1 x2
    have x0 := X.at 0 rfl
    have x1 := X.at 1 rfl
    have x2 := X.at 2 rfl
    have c0 : wr.drew.cell? ⟨bq, oq + k, none⟩ = some (.int .i64 y) := c0
    have hbr : bq < wr.drew.heap.size := hbq
    replace BL : Hid (Below w4.heap.size w4 wr.drew) := Lib.hid BL.out.drew
    refine wp_region_held_drew (S := (fun w' => (w'.cell? ⟨W.heap.size, 0, none⟩ = some (.slice s.v.A s.v.n s.v.c) ∧ w'.cell? ⟨W.heap.size, 1, none⟩ = some (.slice s.B s.m s.d) ∧ w'.cell? ⟨W.heap.size, 2, none⟩ = some (.string (strB s.dom))) ∧ w'.cell? ⟨bq, oq + k, none⟩ = some (.int .i64 y))) (by kernel_rfl) (by exact ⟨⟨x0, x1, x2⟩, c0⟩) (fun hHeld0 => ?_)
    refine tk 0 33 rfl hHeld0 ?_
    refine tk 1 34 rfl hHeld0 ?_
    refine tk 2 35 rfl hHeld0 ?_
    refine tk 3 36 rfl hHeld0 ?_
    refine tk 4 37 rfl hHeld0 ?_
    refine wpAnyH_ready (rs := [5]) (by kernel_rfl) (by simp) (AllReadyH.cons (o := ⟨some 38, _, _, _, _, _⟩) rfl (fun K hK => ?_) AllReadyH.nil)
    go_simp
    (refine (CHo.out _ hP).mono ?_; rintro e wk ⟨rfl, hb⟩; have hbz := hb.size; replace c0 := (hb.cell (p := ⟨bq, oq + k, none⟩) hbr).trans c0; replace hbr := Nat.lt_of_lt_of_le hbr hbz; replace BL := Lib.hid (BL.out.trans (hb.mono BL.out.size)); replace X := X.belowH hb; replace hP := Z.sb hP hb; replace b := b.trans (hb.mono b.size); clear hb; clear x0 x1 x2; have x0 := X.at 0 rfl; have x1 := X.at 1 rfl; have x2 := X.at 2 rfl)
    go_simp
    refine hK.out _ _ (by exact ⟨⟨x0, x1, x2⟩, c0⟩) (fun hHeld1 => ?_)
    clear hK hHeld0 K
    try simp only [Act.put, sA, sB, sC]
    refine tk 6 32 rfl hHeld1 ?_
    refine tk 7 39 rfl hHeld1 ?_
    refine tk 8 40 rfl hHeld1 ?_
    refine tk 9 5 rfl hHeld1 ?_
    refine tk 10 6 rfl hHeld1 ?_
    refine wpAnyH_done (by kernel_rfl) ?_ _
    clear CHo
    cases okh
    · clear c0
      go_wp2
      go_roundw
      case rel => exact ⟨k + 1, by omega, by go_num, BL.out⟩
      case measure => simp [intOf]; omega
    go_upto_region 11 with fail
    go_cut [7] (HostG s y wk)
    case first =>
      replace X := X.drew
      replace hP := Z.sb hP ((Below.refl _ _).drew)
      replace b := b.drew
      clear x0 x1 x2
      have x0 := X.at 0 rfl
      have x1 := X.at 1 rfl
      have x2 := X.at 2 rfl
      replace c0 : wk.drew.cell? ⟨bq, oq + k, none⟩ = some (.int .i64 y) := c0
      replace hbr : bq < wk.drew.heap.size := hbr
      have bw : Below wk.heap.size wk wk.drew := (Below.refl _ _).drew
      refine wp_region_held_drew (S := (fun w' => (w'.cell? ⟨W.heap.size, 0, none⟩ = some (.slice s.v.A s.v.n s.v.c) ∧ w'.cell? ⟨W.heap.size, 1, none⟩ = some (.slice s.B s.m s.d) ∧ w'.cell? ⟨W.heap.size, 2, none⟩ = some (.string (strB s.dom))) ∧ w'.cell? ⟨bq, oq + k, none⟩ = some (.int .i64 y))) (by kernel_rfl) (by exact ⟨⟨x0, x1, x2⟩, c0⟩) (fun hHeld0 => ?_)
      generalize wk.drew = wd at *
      refine tk 0 44 rfl hHeld0 ?_
      refine tk 1 45 rfl hHeld0 ?_
      refine tk 2 46 rfl hHeld0 ?_
      refine tk 3 47 rfl hHeld0 ?_
      refine tk 4 48 rfl hHeld0 ?_
      refine tk 5 49 rfl hHeld0 ?_
      refine wpAnyH_ready (rs := [6, 10]) (by kernel_rfl) (by simp) (AllReadyH.cons (o := ⟨some 50, _, _, _, _, _⟩) rfl (fun K hK => ?_) (AllReadyH.cons (o := ⟨some 7, _, _, _, _, _⟩) rfl (fun K hK => ?_) AllReadyH.nil))
      · skip
        go_simp
        refine (Z.get y hP).mono ?_
        rintro e wf ⟨⟨⟨gg, gb, ga⟩, Ag, ng, cg⟩, rfl, hsg, ⟨hrd, hfr⟩, hb⟩
        simp only at hsg hrd hfr
        simp only [sv]
        have HG : Hid (ga = Zo.apps s.v.view y ∧ ga.length ≤ 4000) := Lib.hid (host_apps (Z.rd hP) HA.out hsg)
        clear hsg
        have hbz := hb.size
        replace X := X.belowH hb
        replace hP := Z.sb hP hb
        replace bw := bw.trans (hb.mono bw.size)
        replace c0 := (hb.cell (p := ⟨bq, oq + k, none⟩) hbr).trans c0
        replace hbr := Nat.lt_of_lt_of_le hbr hbz
        clear hb hfr
        clear x0 x1 x2
        have x0 := X.at 0 rfl
        have x1 := X.at 1 rfl
        have x2 := X.at 2 rfl
        go_simp
        refine hK.out _ _ (by exact ⟨⟨x0, x1, x2⟩, c0⟩) (fun hHeld1 => ?_)
        clear hK hHeld0 K
        try simp only [Act.put, sA, sB, sC]
        refine tk 7 43 rfl hHeld1 ?_
        refine tk 8 51 rfl hHeld1 ?_
        refine tk 9 52 rfl hHeld1 ?_
        refine wpAnyH_ready (rs := [10]) (by kernel_rfl) (by simp) (AllReadyH.cons (o := ⟨some 7, _, _, _, _, _⟩) rfl (fun K hK => ?_) AllReadyH.nil)
        go_simp
        have Xa := X
        have hPa := hP
        have bwa := bw
        have c0a := c0
        have hbra := hbr
        have Q := Box.new wf #[.int .i64 0, .int .i64 0, .slice none 0 0] 35
        replace X := X.alloc (.cells #[.int .i64 0, .int .i64 0, .slice none 0 0] 35)
        replace hP := Z.sb hP ((Below.refl _ _).alloc (Nat.le_refl _) (.cells #[.int .i64 0, .int .i64 0, .slice none 0 0] 35))
        replace bw := bw.alloc bw.size (.cells #[.int .i64 0, .int .i64 0, .slice none 0 0] 35)
        replace c0 := (World.cell?_alloc_lt wf (.cells #[.int .i64 0, .int .i64 0, .slice none 0 0] 35) ⟨bq, oq + k, none⟩ hbr).trans c0
        replace hbr : bq < (wf.alloc (.cells #[.int .i64 0, .int .i64 0, .slice none 0 0] 35)).heap.size := by simp; omega
        clear x0 x1 x2
        have x0 := X.at 0 rfl
        have x1 := X.at 1 rfl
        have x2 := X.at 2 rfl
        go_simp
        refine hK.out _ _ (by exact ⟨⟨x0, x1, x2⟩, c0⟩) (fun hHeld2 => ?_)
        clear hK hHeld1 K
        try simp only [Act.put, sA, sB, sC]
        refine wpAnyH_ready (rs := [11]) (by kernel_rfl) (by simp) (AllReadyH.cons (o := ⟨none, _, _, _, _, _⟩) rfl (fun K hK => ?_) AllReadyH.nil)
        have q0 := Q.at 0 rfl
        have q1 := Q.at 1 rfl
        have q2 := Q.at 2 rfl
        have qf := Q.cold
        have ql := Q.lt
        go_simp
        clear q0 q1 q2 qf ql
        clear x0 x1 x2
        replace X := Xa.alloc (.cells #[.int .i64 gg, .int .i64 gb, .slice Ag ng cg] 35)
        replace hP := Z.sb hPa ((Below.refl _ _).alloc (Nat.le_refl _) (.cells #[.int .i64 gg, .int .i64 gb, .slice Ag ng cg] 35))
        have hqw : wk.heap.size ≤ wf.heap.size := bwa.size
        replace bw := bwa.alloc bwa.size (.cells #[.int .i64 gg, .int .i64 gb, .slice Ag ng cg] 35)
        replace c0 := (World.cell?_alloc_lt wf (.cells #[.int .i64 gg, .int .i64 gb, .slice Ag ng cg] 35) ⟨bq, oq + k, none⟩ hbra).trans c0a
        replace Q := Box.new wf #[.int .i64 gg, .int .i64 gb, .slice Ag ng cg] 35
        replace hrd : SRd (wf.alloc (.cells #[.int .i64 gg, .int .i64 gb, .slice Ag ng cg] 35)) ⟨⟨gg, gb, ga⟩, Ag, ng, cg⟩ := hrd.alloc _
        have x0 := X.at 0 rfl
        have x1 := X.at 1 rfl
        have x2 := X.at 2 rfl
        go_simp
        refine hK.out _ _ (by exact ⟨⟨x0, x1, x2⟩, c0⟩) (fun hHeld3 => ?_)
        clear hK hHeld2 K
        try simp only [Act.put, sA, sB, sC]
        refine tk 12 8 rfl hHeld3 ?_
        refine wpAnyH_done (by kernel_rfl) ?_ _
        go_wp2_with fail
        go_meet
        exact ⟨_, gg, gb, Ag, ng, cg, ga, rfl, hqw, Q, hrd, HG, bw⟩
      · skip
        go_simp
        have Xa := X
        have hPa := hP
        have bwa := bw
        have c0a := c0
        have hbra := hbr
        have Q := Box.new wd #[.int .i64 0, .int .i64 0, .slice none 0 0] 35
        replace X := X.alloc (.cells #[.int .i64 0, .int .i64 0, .slice none 0 0] 35)
        replace hP := Z.sb hP ((Below.refl _ _).alloc (Nat.le_refl _) (.cells #[.int .i64 0, .int .i64 0, .slice none 0 0] 35))
        replace bw := bw.alloc bw.size (.cells #[.int .i64 0, .int .i64 0, .slice none 0 0] 35)
        replace c0 := (World.cell?_alloc_lt wd (.cells #[.int .i64 0, .int .i64 0, .slice none 0 0] 35) ⟨bq, oq + k, none⟩ hbr).trans c0
        replace hbr : bq < (wd.alloc (.cells #[.int .i64 0, .int .i64 0, .slice none 0 0] 35)).heap.size := by simp; omega
        clear x0 x1 x2
        have x0 := X.at 0 rfl
        have x1 := X.at 1 rfl
        have x2 := X.at 2 rfl
        obtain ⟨qb, eqb⟩ : ∃ z, wd.heap.size = z := ⟨_, rfl⟩
        have hqw : wk.heap.size ≤ qb := by rw [← eqb]; exact bwa.size
        rw [eqb] at Q
        have HQB : Hid ((wd.alloc (.cells #[.int .i64 0, .int .i64 0, .slice none 0 0] 35)).heap.size = qb + 1) := Lib.hid (by rw [← eqb]; simp)
        go_simp
        refine hK.out _ _ (by exact ⟨⟨x0, x1, x2⟩, c0⟩) (fun hHeld1 => ?_)
        clear hK hHeld0 K
        try simp only [Act.put, sA, sB, sC]
        refine wpAnyH_ready (rs := [6]) (by kernel_rfl) (by simp) (AllReadyH.cons (o := ⟨some 50, _, _, _, _, _⟩) rfl (fun K hK => ?_) AllReadyH.nil)
        go_simp
        have hqb := Q.lt
        refine (Z.get y hP).mono ?_
        rintro e wf ⟨⟨⟨gg, gb, ga⟩, Ag, ng, cg⟩, rfl, hsg, ⟨hrd, hfr⟩, hb⟩
        simp only at hsg hrd hfr
        simp only [sv]
        have HG : Hid (ga = Zo.apps s.v.view y ∧ ga.length ≤ 4000) := Lib.hid (host_apps (Z.rd hP) HA.out hsg)
        clear hsg
        have hbz := hb.size
        replace X := X.belowH hb
        replace hP := Z.sb hP hb
        replace bw := bw.trans (hb.mono bw.size)
        replace c0 := (hb.cell (p := ⟨bq, oq + k, none⟩) hbr).trans c0
        replace hbr := Nat.lt_of_lt_of_le hbr hbz
        have Qn : ng ≠ 0 → ∀ bb oo, Ag = some ⟨bb, oo, none⟩ → bb ≠ qb := fun hn bb oo e h => by
          obtain ⟨b', o', e', h1⟩ := hfr hn
          have h2 := HQB.out
          simp only at e'
          rw [e] at e'
          injection e' with e'
          injection e' with e1 e2
          omega
        replace Q := Q.belowH hb
        clear hb hfr
        clear x0 x1 x2
        have x0 := X.at 0 rfl
        have x1 := X.at 1 rfl
        have x2 := X.at 2 rfl
        go_simp
        refine hK.out _ _ (by exact ⟨⟨x0, x1, x2⟩, c0⟩) (fun hHeld2 => ?_)
        clear hK hHeld1 K
        try simp only [Act.put, sA, sB, sC]
        refine tk 7 43 rfl hHeld2 ?_
        refine tk 8 51 rfl hHeld2 ?_
        refine tk 9 52 rfl hHeld2 ?_
        refine wpAnyH_ready (rs := [11]) (by kernel_rfl) (by simp) (AllReadyH.cons (o := ⟨none, _, _, _, _, _⟩) rfl (fun K hK => ?_) AllReadyH.nil)
        have q0 := Q.at 0 rfl
        have q1 := Q.at 1 rfl
        have q2 := Q.at 2 rfl
        have qf := Q.cold
        have ql := Q.lt
        go_simp
        clear q0 q1 q2 qf ql
        clear x0 x1 x2
        have hbs := below_set (o := 2) (below_set (o := 1) (below_set (o := 0) (Below.refl qb wf) (Nat.le_refl _) (.int .i64 gg)) (Nat.le_refl _) (.int .i64 gb)) (Nat.le_refl _) (.slice Ag ng cg)
        replace hrd := srd_set (o := 2) (srd_set (o := 1) (srd_set (o := 0) hrd Qn (.int .i64 gg)) Qn (.int .i64 gb)) Qn (.slice Ag ng cg)
        replace Q := ((Q.set 0 (.int .i64 gg)).set 1 (.int .i64 gb)).set 2 (.slice Ag ng cg)
        have hxq : W.heap.size < qb := by rw [← eqb]; exact Xa.lt
        replace X := X.below hbs hxq
        replace bw := bw.trans (hbs.mono hqw)
        replace c0 := (hbs.cell (p := ⟨bq, oq + k, none⟩) (by rw [← eqb]; exact hbra)).trans c0
        have x0 := X.at 0 rfl
        have x1 := X.at 1 rfl
        have x2 := X.at 2 rfl
        go_simp
        refine hK.out _ _ (by exact ⟨⟨x0, x1, x2⟩, c0⟩) (fun hHeld3 => ?_)
        clear hK hHeld2 K
        try simp only [Act.put, sA, sB, sC]
        refine tk 12 8 rfl hHeld3 ?_
        refine wpAnyH_done (by kernel_rfl) ?_ _
        go_wp2_with fail
        go_meet
        exact ⟨_, gg, gb, Ag, ng, cg, ga, rfl, hqw, Q, hrd, HG, bw⟩
    case rest =>
      obtain ⟨gk, gg, gb, Ag, ng, cg, ga, rfl, hgk, G, hgr, HG, bw⟩ := hcut
      replace X := X.belowH bw
      replace hP := Z.sb hP bw
      replace b := b.trans (bw.mono b.size)
      replace BL := Lib.hid (BL.out.trans (bw.mono BL.out.size))
      clear x0 x1 x2 c0 hHeld1 hbr hbz bw hgk
      go_wp2
      generalize wr = wo at *
      go_loopw [9] (fun i wr => ∃ kv : Int, 1 ≤ kv ∧ kv ≤ 3 ∧ i = .int .i64 kv ∧ Below wc.heap.size wc wr) (fun i _ => 3 - (intOf i).toNat)
      case atStart => exact ⟨1, by omega, by omega, rfl, Below.refl _ _⟩
      case round =>
        obtain ⟨kv, h1, h3, rfl, bk⟩ := hrel
        replace X := X.belowH bk
        replace G := G.belowH bk
        replace hgr := hgr.belowH bk
        replace hP := Z.sb hP bk
        replace b := b.trans (bk.mono b.size)
        by_cases hk2 : kv ≤ 2
        rotate_left
        · have f1 : decide (kv ≤ 2) = false := decide_eq_false hk2
          have BLK := Lib.hid (BL.out.trans (bk.mono BL.out.size))
          clear hk2 h1 h3
          go_wp2
          go_roundw
          case rel => exact ⟨k + 1, by omega, by go_num, BLK.out⟩
          case measure => simp [intOf]; omega
        have f1 : decide (kv ≤ 2) = true := decide_eq_true hk2
        have BK := Lib.hid bk
        have hk12 : kv = 1 ∨ kv = 2 := by omega
        clear bk h1 h3 hk2
        have LB := Box.new wr #[.int .i64 1, .int .i64 28] 3
        replace X := X.alloc (.cells #[.int .i64 1, .int .i64 28] 3)
        replace G := G.alloc (.cells #[.int .i64 1, .int .i64 28] 3)
        replace hgr := hgr.alloc (.cells #[.int .i64 1, .int .i64 28] 3)
        replace hP := Z.sb hP ((Below.refl _ _).alloc (Nat.le_refl _) (.cells #[.int .i64 1, .int .i64 28] 3))
        replace b := b.alloc b.size (.cells #[.int .i64 1, .int .i64 28] 3)
        replace BK := Lib.hid (BK.out.alloc BK.out.size (.cells #[.int .i64 1, .int .i64 28] 3))
        have k0 := LB.at 0 rfl
        have k1 := LB.at 1 rfl
        rcases hk12 with hkv | hkv
        · skip
          have w1 : wrap64 (kv - 1) = 0 := by unfold wrap64; omega
          have w1' : IntKind.i64.wrap (kv - 1) = 0 := (IntWalk.i64_in _ (by omega)).trans (by omega)
          have w2 : wrap64 (kv + 1) = 2 := by unfold wrap64; omega
          have w2' : IntKind.i64.wrap (kv + 1) = 2 := (IntWalk.i64_in _ (by omega)).trans (by omega)
          have HK := Lib.hid hkv
          clear hkv
          go_upto_region 16 with fail
          clear LB k0 k1
          generalize wr.alloc (.cells #[.int .i64 1, .int .i64 28] 3) = wl at *
          obtain ⟨⟨ad, has⟩, ead⟩ : ∃ z, Zo.addr ga kv = z := ⟨_, rfl⟩
          have C := ryaddress_any ga kv Ag ng cg wl hgr (by have h1 := hgr.lenE; have h2 := HG.out.2; simp only at h1; omega)
          rw [ead] at C
          have ET : Hid (Zo.tell s.sc th 1 = if has = true then [⟨th, 1, 1, 5, ad⟩] else []) := Lib.hid (by
            have h := Zo.host_addrs (s := s.sc) (n := y) HY.out (by rw [show s.sc.dom = s.dom from rfl, EH.out]) (typ := 1) (Or.inl rfl)
            rw [show s.sc.dom = s.dom from rfl, EH.out, show Zo.apps s.sc.view y = ga from HG.out.1.symm, show Zo.keyOf 1 = kv from by rw [HK.out]; rfl, ead] at h
            exact h)
          have g2 := G.at 2 rfl
          clear ead
          go_wp2_with fail
          refine C.mono ?_
          clear C g2
          rintro e wm ⟨rfl, hb⟩
          replace BK := Lib.hid (BK.out.trans (hb.mono BK.out.size))
          replace X := X.belowH hb
          replace hP := Z.sb hP hb
          replace b := b.trans (hb.mono b.size)
          clear hb hgr G
          have x0 := X.at 0 rfl
          have x1 := X.at 1 rfl
          have x2 := X.at 2 rfl
          have T := fun W (h : P W) => Z.tell (nm := th) 1 h (by have := HTH.out; omega)
          rw [ET.out] at T
          have HT := Lib.hid T
          have IS := Lib.hid (fun W (h : P W) => Z.is (nm := th) h (by have := HTH.out; omega))
          rw [show Zo.is s.sc th = true from by have h := Zo.host_is (s := s.sc) (n := y) HY.out (by rw [show s.sc.dom = s.dom from rfl, EH.out]); rwa [show s.sc.dom = s.dom from rfl, EH.out] at h] at IS
          have UN := Lib.hid (fun W => ounder_at (a := th) (b := s.dom) (z := true) (by have h := Zo.host_under (dom := s.dom) (n := y) (by rw [EH.out]); rwa [EH.out] at h) (by have := HTH.out; omega) (by have := HD.out; omega) W)
          clear T
          go_wp2_with fail
          refine (HT.out wm hP).mono ?_
          rintro e wq ⟨A5, n5, c5, rfl, hl5, R5, _, hb⟩
          have HL5 := Lib.hid hl5
          replace BK := Lib.hid (BK.out.trans (hb.mono BK.out.size))
          clear hl5
          replace X := X.belowH hb
          replace hP := Z.sb hP hb
          replace b := b.trans (hb.mono b.size)
          clear hb
          clear x0 x1 x2
          have x0 := X.at 0 rfl
          have x1 := X.at 1 rfl
          have x2 := X.at 2 rfl
          go_wp2_with fail
          refine (IS.out wq hP).mono ?_
          rintro e wi ⟨rfl, hb⟩
          replace BK := Lib.hid (BK.out.trans (hb.mono BK.out.size))
          replace X := X.belowH hb
          replace hP := Z.sb hP hb
          replace R5 := R5.belowH hb
          replace b := b.trans (hb.mono b.size)
          clear hb
          clear x0 x1 x2
          have x0 := X.at 0 rfl
          have x1 := X.at 1 rfl
          have x2 := X.at 2 rfl
          go_wp2_with fail
          refine (UN.out wi).mono ?_
          rintro e wu ⟨rfl, hb⟩
          replace BK := Lib.hid (BK.out.trans (hb.mono BK.out.size))
          replace X := X.belowH hb
          replace hP := Z.sb hP hb
          replace R5 := R5.belowH hb
          replace b := b.trans (hb.mono b.size)
          clear hb
          clear x0 x1 x2
          have x0 := X.at 0 rfl
          have x1 := X.at 1 rfl
          have x2 := X.at 2 rfl
          cases has
          · obtain rfl : n5 = 0 := HL5.out.symm
            go_wp2
            go_roundw
            case rel => exact ⟨2, by omega, by omega, rfl, BK.out⟩
            case measure => simp [intOf]; have := HK.out; omega
          · obtain rfl : n5 = 1 := HL5.out.symm
            obtain ⟨br, or, r, rfl, hbr, hr, r0, r1, r2, r3, r4⟩ := R5.atR (k := 0) (by omega)
            obtain rfl : (⟨th, 1, 1, 5, ad⟩ : Rrc) = r := by simpa using hr
            simp only [Nat.zero_mul, Nat.add_zero] at r0 r1 r2 r3 r4
            have q1 : (strB ad != strB ad) = false := by rw [strB_bne]; simp
            have q1' : (ad != ad) = false := bne_self_eq_false _
            clear hr R5
            go_wp2
            go_roundw
            case rel => exact ⟨2, by omega, by omega, rfl, BK.out⟩
            case measure => simp [intOf]; have := HK.out; omega
        · skip
          have w1 : wrap64 (kv - 1) = 1 := by unfold wrap64; omega
          have w1' : IntKind.i64.wrap (kv - 1) = 1 := (IntWalk.i64_in _ (by omega)).trans (by omega)
          have w2 : wrap64 (kv + 1) = 3 := by unfold wrap64; omega
          have w2' : IntKind.i64.wrap (kv + 1) = 3 := (IntWalk.i64_in _ (by omega)).trans (by omega)
          have HK := Lib.hid hkv
          clear hkv
          go_upto_region 16 with fail
          clear LB k0 k1
          generalize wr.alloc (.cells #[.int .i64 1, .int .i64 28] 3) = wl at *
          obtain ⟨⟨ad, has⟩, ead⟩ : ∃ z, Zo.addr ga kv = z := ⟨_, rfl⟩
          have C := ryaddress_any ga kv Ag ng cg wl hgr (by have h1 := hgr.lenE; have h2 := HG.out.2; simp only at h1; omega)
          rw [ead] at C
          have ET : Hid (Zo.tell s.sc th 28 = if has = true then [⟨th, 28, 1, 5, ad⟩] else []) := Lib.hid (by
            have h := Zo.host_addrs (s := s.sc) (n := y) HY.out (by rw [show s.sc.dom = s.dom from rfl, EH.out]) (typ := 28) (Or.inr rfl)
            rw [show s.sc.dom = s.dom from rfl, EH.out, show Zo.apps s.sc.view y = ga from HG.out.1.symm, show Zo.keyOf 28 = kv from by rw [HK.out]; rfl, ead] at h
            exact h)
          have g2 := G.at 2 rfl
          clear ead
          go_wp2_with fail
          refine C.mono ?_
          clear C g2
          rintro e wm ⟨rfl, hb⟩
          replace BK := Lib.hid (BK.out.trans (hb.mono BK.out.size))
          replace X := X.belowH hb
          replace hP := Z.sb hP hb
          replace b := b.trans (hb.mono b.size)
          clear hb hgr G
          have x0 := X.at 0 rfl
          have x1 := X.at 1 rfl
          have x2 := X.at 2 rfl
          have T := fun W (h : P W) => Z.tell (nm := th) 28 h (by have := HTH.out; omega)
          rw [ET.out] at T
          have HT := Lib.hid T
          have IS := Lib.hid (fun W (h : P W) => Z.is (nm := th) h (by have := HTH.out; omega))
          rw [show Zo.is s.sc th = true from by have h := Zo.host_is (s := s.sc) (n := y) HY.out (by rw [show s.sc.dom = s.dom from rfl, EH.out]); rwa [show s.sc.dom = s.dom from rfl, EH.out] at h] at IS
          have UN := Lib.hid (fun W => ounder_at (a := th) (b := s.dom) (z := true) (by have h := Zo.host_under (dom := s.dom) (n := y) (by rw [EH.out]); rwa [EH.out] at h) (by have := HTH.out; omega) (by have := HD.out; omega) W)
          clear T
          go_wp2_with fail
          refine (HT.out wm hP).mono ?_
          rintro e wq ⟨A5, n5, c5, rfl, hl5, R5, _, hb⟩
          have HL5 := Lib.hid hl5
          replace BK := Lib.hid (BK.out.trans (hb.mono BK.out.size))
          clear hl5
          replace X := X.belowH hb
          replace hP := Z.sb hP hb
          replace b := b.trans (hb.mono b.size)
          clear hb
          clear x0 x1 x2
          have x0 := X.at 0 rfl
          have x1 := X.at 1 rfl
          have x2 := X.at 2 rfl
          go_wp2_with fail
          refine (IS.out wq hP).mono ?_
          rintro e wi ⟨rfl, hb⟩
          replace BK := Lib.hid (BK.out.trans (hb.mono BK.out.size))
          replace X := X.belowH hb
          replace hP := Z.sb hP hb
          replace R5 := R5.belowH hb
          replace b := b.trans (hb.mono b.size)
          clear hb
          clear x0 x1 x2
          have x0 := X.at 0 rfl
          have x1 := X.at 1 rfl
          have x2 := X.at 2 rfl
          go_wp2_with fail
          refine (UN.out wi).mono ?_
          rintro e wu ⟨rfl, hb⟩
          replace BK := Lib.hid (BK.out.trans (hb.mono BK.out.size))
          replace X := X.belowH hb
          replace hP := Z.sb hP hb
          replace R5 := R5.belowH hb
          replace b := b.trans (hb.mono b.size)
          clear hb
          clear x0 x1 x2
          have x0 := X.at 0 rfl
          have x1 := X.at 1 rfl
          have x2 := X.at 2 rfl
          cases has
          · obtain rfl : n5 = 0 := HL5.out.symm
            go_wp2
            go_roundw
            case rel => exact ⟨3, by omega, by omega, rfl, BK.out⟩
            case measure => simp [intOf]; have := HK.out; omega
          · obtain rfl : n5 = 1 := HL5.out.symm
            obtain ⟨br, or, r, rfl, hbr, hr, r0, r1, r2, r3, r4⟩ := R5.atR (k := 0) (by omega)
            obtain rfl : (⟨th, 28, 1, 5, ad⟩ : Rrc) = r := by simpa using hr
            simp only [Nat.zero_mul, Nat.add_zero] at r0 r1 r2 r3 r4
            have q1 : (strB ad != strB ad) = false := by rw [strB_bne]; simp
            have q1' : (ad != ad) = false := bne_self_eq_false _
            clear hr R5
            go_wp2
            go_roundw
            case rel => exact ⟨3, by omega, by omega, rfl, BK.out⟩
            case measure => simp [intOf]; have := HK.out; omega
end Go.Proofs.YtmbfldcmiabccaaDoor

