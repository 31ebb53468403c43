/- OLaw2 (merged). -/
import Derived.Deep.QuietTactic
import Derived.Deep.RegionHeld3
import Derived.Deep.DeepCutAuto
import Derived.Test.YtmbfldcmiabccaaDoorJF21
import Derived.Test.YtmbfldcmiabccaaDoorJORows
namespace Go.Proofs.YtmbfldcmiabccaaDoor
set_option linter.unusedVariables false
set_option linter.unusedSimpArgs false
open Go.RowKit
/-- the scene in which nobody is alive -/
def Sn.dead (s : Sn) : Sn := ⟨s.v, [], none, 0, 0, s.dom⟩
theorem dead_arg {s : Sn} (h : SnArg s) : SnArg s.dead := ⟨⟨⟨h.ok.fit.1, h.ok.fit.2.1, Nat.zero_le _⟩, h.ok.val, h.ok.dom⟩, h.right, h.cap1, ⟨Nat.le_refl _, Nat.zero_le _⟩⟩
/-- does an endpoint live -/
def lvN (s : Sn) (x : Nv) : Bool := Zo.lives s.sc x.nm
/-- the scene of the living -/
def Sn.less (s : Sn) (O : List Nv) (A : Option Addr) (j c : Nat) : Sn := ⟨⟨O, A, j, c⟩, s.al, s.B, s.m, s.d, s.dom⟩
theorem less_sc {s : Sn} {O : List Nv} {A : Option Addr} {j c : Nat} (h : O = s.v.l.filter (lvN s)) : (s.less O A j c).sc = Zo.less s.sc := by
  subst h
  show (⟨(s.v.l.filter (lvN s)).map Nv.nm, s.al, s.dom⟩ : Scn) = ⟨(s.v.l.map Nv.nm).filter (Zo.lives s.sc), s.al, s.dom⟩
  rw [List.filter_map]
  rfl
theorem less_arg {s : Sn} (h : SnArg s) {O : List Nv} {A : Option Addr} {j c : Nat} (hO : O = s.v.l.filter (lvN s)) (hj : j ≤ 1000) (hc : j ≤ c ∧ c ≤ 9223372036854775807) : SnArg (s.less O A j c) := by
  have hv : (s.less O A j c).v.view = s.v.view.filter (Zo.lives s.sc) := congrArg Scn.view (less_sc (A := A) (j := j) (c := c) hO)
  have hm : ∀ x ∈ O, x ∈ s.v.l := fun x hx => by rw [hO] at hx; exact (List.mem_filter.1 hx).1
  refine ⟨⟨⟨hj, fun x hx => h.ok.fit.2.1 x (hm x hx), h.ok.fit.2.2⟩, ?_, h.ok.dom⟩, ?_, hc, h.cap2⟩
  · rw [hv]
    exact fun x hx => h.ok.val x (List.mem_filter.1 hx).1
  · rw [hv]
    exact ⟨fun x hx => h.right.1 x (List.mem_filter.1 hx).1, Zo.rising_filter h.right.2 _⟩
/-- the frame in the loop -/
def LessA (s : Sn) (wc : World) (s8 : Value) (wr : World) : Prop := ∃ (k j : Nat) (A2 : Option Addr) (c2 : Nat) (O : List Nv), k ≤ s.v.n ∧ j ≤ k ∧ s8 = .int .i64 (k : Int) ∧ Hid (O = (s.v.l.take k).filter (lvN s) ∧ O.length = j) ∧
  Box wr wc.heap.size 25 #[.slice A2 j c2, .slice s.B s.m s.d, .string (strB s.dom)] ∧ wr.ownsRow (wc.heap.size + 1) 37 4 (.slice A2 j c2) j (FC ncl O) ∧ Below wc.heap.size wc wr
set_option maxHeartbeats 16000000 in
set_option maxRecDepth 40000 in
theorem law_ZoneLiving (s : Sn) (a1 : ByteArray) (W : World) (w0 : SnIn W s) (w1 : a1.size ≤ maxLen) :
    Calls Tryd.prog 3 #[snval s, .string a1] W fun e w' => e = .returned (.bool true) ∧ Below W.heap.size W w' := by
  obtain ⟨nm, rfl⟩ : ∃ nm, strB nm = a1 := ⟨a1.data.toList, rfl⟩
  obtain ⟨nl, hnl⟩ : ∃ k, nm.length = k := ⟨_, rfl⟩
  have hnz : (strB nm).size = nl := by rw [strB_size, hnl]
  have HNL := Lib.hid hnl
  clear hnl
  have SR : SnRd W s := ⟨w0.view.1, w0.al⟩
  have LK : Hid (s.v.n * 48 ≤ 140737488351232 ∧ (∀ x ∈ s.v.l, x.v.n * 32 ≤ 140737488351232 ∧ ∀ y ∈ x.v.s.apps, y.val.length ≤ 140737488351232)) := Lib.hid ⟨w0.view.2.2.1, fun x hx => (w0.view.2.2.2 x hx).1⟩
  have HC := Lib.hid (And.intro w0.cap1 w0.cap2)
  have X := Box.new W (sncs s) 25
  have b := (Below.refl W.heap.size W).alloc (Nat.le_refl _) (.cells (sncs s) 25)
  replace SR := SR.alloc (.cells (sncs s) 25)
  clear w0
  simp only [snval, sncs] at X SR b ⊢
  have x0 := X.at 0 rfl
  have x1 := X.at 1 rfl
  have x2 := X.at 2 rfl
  go_enter Tryd.func3, Tryd.ntmps3
  go_wp2_with fail
  generalize W.alloc (.cells #[.slice s.v.A s.v.n s.v.c, .slice s.B s.m s.d, .string (strB s.dom)] 25) = wa at *
  refine (oalive_any wa).mono ?_
  rintro e v1 ⟨rfl, hb⟩
  replace X := X.belowH hb
  replace SR := SR.belowH hb
  replace b := b.trans (hb.mono b.size)
  clear hb
  clear x0 x1 x2
  have x0 := X.at 0 rfl
  have x1 := X.at 1 rfl
  have x2 := X.at 2 rfl
  go_wp2_with fail
  refine (rogreat_any s v1 ⟨SR, LK.out.1, LK.out.2⟩).mono ?_
  rintro e v2 ⟨rfl, hb⟩
  replace X := X.belowH hb
  replace SR := SR.belowH hb
  replace b := b.trans (hb.mono b.size)
  clear hb
  clear x0 x1 x2
  have x0 := X.at 0 rfl
  have x1 := X.at 1 rfl
  have x2 := X.at 2 rfl
  rcases hg : SnGreat s
  rotate_left
  · skip
    go_wp2
    go_ret
    exact ⟨rfl, b⟩
  obtain ⟨g1, g2, g3, g4⟩ := ogreat_small SR hg
  clear hg
  by_cases h5 : 500 < nl
  · have f5 : decide ((500 : Int) < (nl : Int)) = true := decide_eq_true (by omega)
    have f5' : decide (500 < nl) = true := decide_eq_true h5
    go_wp2
    go_ret
    exact ⟨rfl, b⟩
  have f5 : decide ((500 : Int) < (nl : Int)) = false := decide_eq_false (by omega)
  have f5' : decide (500 < nl) = false := decide_eq_false h5
  have HN : Hid (nm.length ≤ 500) := Lib.hid (by have := HNL.out; omega)
  clear h5
  go_wp2_with fail
  refine (rvright_any s.v v2 SR.1 (by omega) g2).mono ?_
  rintro e v3 ⟨rfl, hb⟩
  replace X := X.belowH hb
  replace SR := SR.belowH hb
  replace b := b.trans (hb.mono b.size)
  clear hb
  clear x0 x1 x2
  have x0 := X.at 0 rfl
  have x1 := X.at 1 rfl
  have x2 := X.at 2 rfl
  rcases hr : vrightB s.v.view
  · skip
    go_wp2
    go_ret
    exact ⟨rfl, b⟩
  have HA : Hid (SnArg s) := Lib.hid ⟨⟨⟨by omega, g2, by omega⟩, fun x hx y hy => by
    obtain ⟨z, hz, rfl⟩ := List.mem_map.1 hx
    exact (LK.out.2 z hz).2 y hy, by omega⟩, vrightB_out hr, HC.out.1, HC.out.2⟩
  have HD := Lib.hid g4
  have HN1 := Lib.hid g1
  obtain ⟨P, Z, hP⟩ : ∃ P, ZCon s P ∧ P v3 := ⟨_, zcon_of HA.out, SR⟩
  clear hr g1 g2 g3 g4 SR LK HC
  clear f5 f5'
  clear w1
  have HN2 : Hid (nm.length ≤ 1000) := Lib.hid (by have := HN.out; omega)
  have HLD : Hid (Lib.hid True.intro = Lib.hid True.intro) := Lib.hid rfl
  go_wp2_with fail
  refine (Z.tell 33 hP HN2.out).mono ?_
  rintro e w4 ⟨A1, n1, c1, rfl, hl1, R1, _, hb⟩
  clear HLD R1
  have HL1 := Lib.hid hl1
  clear hl1
  replace X := X.belowH hb
  replace hP := Z.sb hP hb
  replace b := b.trans (hb.mono b.size)
  clear hb
  clear x0 x1 x2
  have x0 := X.at 0 rfl
  have x1 := X.at 1 rfl
  have x2 := X.at 2 rfl
  go_upto_region 7 with fail
  have YB := Box.new w4 #[.slice s.v.A s.v.n s.v.c, .slice s.B s.m s.d, .string (strB s.dom)] 25
  clear x0 x1 x2
  have y0 := YB.at 0 rfl
  have y1 := YB.at 1 rfl
  have y2 := YB.at 2 rfl
  have yc := YB.cold
  have yl := YB.lt
  go_upto_region 8 with fail
  clear y0 y1 y2 yc yl YB
  have Y := Box.new w4 #[.slice s.v.A s.v.n s.v.c, .slice none 0 0, .string (strB s.dom)] 25
  have bY := (Below.refl w4.heap.size w4).alloc (Nat.le_refl _) (.cells #[.slice s.v.A s.v.n s.v.c, .slice none 0 0, .string (strB s.dom)] 25)
  replace X := X.belowH bY
  replace hP := Z.sb hP bY
  replace b := b.trans (bY.mono b.size)
  clear bY
  generalize w4.alloc (.cells #[.slice s.v.A s.v.n s.v.c, .slice none 0 0, .string (strB s.dom)] 25) = w5 at *
  generalize w4.heap.size = yb at *
  replace Y : Box w5 yb 25 #[.slice s.v.A s.v.n s.v.c, .slice none 0 0, .string (strB s.dom)] := Y
  obtain ⟨PD, ZD, hPD⟩ : ∃ P, ZCon s.dead P ∧ P w5 := ⟨_, zcon_of (dead_arg HA.out), ⟨(Z.rd hP).1, Rd.zero _ _ _ _⟩⟩
  have x0 := X.at 0 rfl
  have x1 := X.at 1 rfl
  have x2 := X.at 2 rfl
  have y0 := Y.at 0 rfl
  have y1 := Y.at 1 rfl
  have y2 := Y.at 2 rfl
  have D1 := fun W (h : PD W) => ZD.tell (nm := nm) 33 h HN2.out
  have D2 := fun W (h : PD W) => ZD.tell (nm := nm) 1 h HN2.out
  have D3 := fun W (h : PD W) => ZD.counts h
  rw [show Zo.tell s.dead.sc nm 33 = [] from Zo.dead33 s.sc nm] at D1
  rw [show Zo.tell s.dead.sc nm 1 = [] from Zo.dead1 s.sc nm] at D2
  rw [show Zo.counts s.dead.sc = [] from Zo.counts_dead s.sc] at D3
  have HD1 := Lib.hid D1
  have HD2 := Lib.hid D2
  have HD3 := Lib.hid D3
  clear D1 D2 D3
  have B0 := Lib.hid (Below.refl w5.heap.size w5)
  go_cut [60] (fun s60 wx => s60 = .bool false ∧ Below w5.heap.size w5 wx)
  case first =>
    go_wp2_with fail
    refine (HD1.out w5 hPD).mono ?_
    rintro e w6 ⟨A2, n2, c2, rfl, hl2, _, _, hb⟩
    obtain rfl : n2 = 0 := hl2.symm
    clear hl2
    replace B0 := Lib.hid (B0.out.trans (hb.mono B0.out.size))
    replace X := X.belowH hb
    replace Y := Y.belowH hb
    replace hP := Z.sb hP hb
    replace hPD := ZD.sb hPD hb
    replace b := b.trans (hb.mono b.size)
    clear hb
    clear x0 x1 x2
    clear y0 y1 y2
    have x0 := X.at 0 rfl
    have x1 := X.at 1 rfl
    have x2 := X.at 2 rfl
    have y0 := Y.at 0 rfl
    have y1 := Y.at 1 rfl
    have y2 := Y.at 2 rfl
    go_wp2_with fail
    refine (HD2.out w6 hPD).mono ?_
    rintro e w7 ⟨A2, n2, c2, rfl, hl2, _, _, hb⟩
    obtain rfl : n2 = 0 := hl2.symm
    clear hl2
    replace B0 := Lib.hid (B0.out.trans (hb.mono B0.out.size))
    replace X := X.belowH hb
    replace Y := Y.belowH hb
    replace hP := Z.sb hP hb
    replace hPD := ZD.sb hPD hb
    replace b := b.trans (hb.mono b.size)
    clear hb
    clear x0 x1 x2
    clear y0 y1 y2
    have x0 := X.at 0 rfl
    have x1 := X.at 1 rfl
    have x2 := X.at 2 rfl
    have y0 := Y.at 0 rfl
    have y1 := Y.at 1 rfl
    have y2 := Y.at 2 rfl
    go_wp2_with fail
    refine (HD3.out w7 hPD).mono ?_
    rintro e w8 ⟨A2, n2, c2, rfl, hl2, _, _, hb⟩
    obtain rfl : n2 = 0 := hl2.symm
    clear hl2
    replace B0 := Lib.hid (B0.out.trans (hb.mono B0.out.size))
    replace X := X.belowH hb
    replace Y := Y.belowH hb
    replace hP := Z.sb hP hb
    replace hPD := ZD.sb hPD hb
    replace b := b.trans (hb.mono b.size)
    clear hb
    clear x0 x1 x2
    clear y0 y1 y2
    have x0 := X.at 0 rfl
    have x1 := X.at 1 rfl
    have x2 := X.at 2 rfl
    have y0 := Y.at 0 rfl
    have y1 := Y.at 1 rfl
    have y2 := Y.at 2 rfl
    by_cases h0 : n1 = 0
    · have z1 : decide ((0 : Int) < (n1 : Int)) = false := decide_eq_false (by omega)
      have z1' : decide (0 < n1) = false := decide_eq_false (by omega)
      clear h0
      go_wp2
      go_meet
      exact ⟨rfl, B0.out⟩
    · have z1 : decide ((0 : Int) < (n1 : Int)) = true := decide_eq_true (by omega)
      have z1' : decide (0 < n1) = true := decide_eq_true (by omega)
      have IS := Lib.hid (fun W (h : P W) => Z.is (nm := nm) h HN2.out)
      rw [show Zo.is s.sc nm = true from Zo.srv_is (fun h => h0 (by rw [← HL1.out, Zo.tell_len, h]; rfl))] at IS
      clear h0
      go_wp2_with fail
      refine (IS.out w8 hP).mono ?_
      rintro e w9 ⟨rfl, hb⟩
      replace B0 := Lib.hid (B0.out.trans (hb.mono B0.out.size))
      go_wp2
      go_meet
      exact ⟨rfl, B0.out⟩
  case rest =>
    obtain ⟨rfl, bz⟩ := hcut
    clear ZD hPD HD1 HD2 HD3 B0 Y y0 y1 y2 x0 x1 x2 HL1
    replace X := X.belowH bz
    replace hP := Z.sb hP bz
    replace b := b.trans (bz.mono b.size)
    clear bz
    have x0 := X.at 0 rfl
    have x1 := X.at 1 rfl
    have x2 := X.at 2 rfl
    go_upto_region 11 with fail
    have ZB := Box.new wc #[.slice s.v.A s.v.n s.v.c, .slice s.B s.m s.d, .string (strB s.dom)] 25
    have bV := (Below.refl wc.heap.size wc).alloc (Nat.le_refl _) (.cells #[.slice s.v.A s.v.n s.v.c, .slice s.B s.m s.d, .string (strB s.dom)] 25)
    clear x0 x1 x2
    have y0 := ZB.at 0 rfl
    have y1 := ZB.at 1 rfl
    have y2 := ZB.at 2 rfl
    have yc := ZB.cold
    have yl := ZB.lt
    go_upto_region 12 with fail
    clear y0 y1 y2 yc yl ZB bV
    have ZB := Box.new wc #[.slice none 0 0, .slice s.B s.m s.d, .string (strB s.dom)] 25
    have bV := (Below.refl wc.heap.size wc).alloc (Nat.le_refl _) (.cells #[.slice none 0 0, .slice s.B s.m s.d, .string (strB s.dom)] 25)
    generalize wc.alloc (.cells #[.slice none 0 0, .slice s.B s.m s.d, .string (strB s.dom)] 25) = wy at *
    have hwc : W.heap.size < wc.heap.size := X.lt
    go_wp2
    go_loopw [8] (LessA s wc) (fun i _ => s.v.n - (intOf i).toNat)
    case atStart => exact ⟨0, 0, none, 0, [], Nat.zero_le _, Nat.le_refl _, rfl, Lib.hid ⟨rfl, rfl⟩, ZB, World.ownsRow_nil _ _ _ _, bV⟩
    case round =>
      clear ZB bV
      obtain ⟨k, j, A2, c2, O, hk, hj, rfl, HO, ZB, own, bl⟩ := hrel
      have hk0 : (0 : Int) ≤ (k : Int) := by omega
      have X4 := X.belowH bl
      have hP4 := Z.sb hP bl
      have x0 := X4.at 0 rfl
      have x1 := X4.at 1 rfl
      have x2 := X4.at 2 rfl
      have hzl := ZB.lt
      by_cases hlt : k < s.v.n
      · have hnn : s.v.n ≤ 40 := HN1.out
        have g1 : decide ((k : Int) < (s.v.n : Int)) = true := decide_eq_true (by omega)
        obtain ⟨bq, oq, x, hA, hbq, hx, hsr, d0, d1, d2, d3⟩ := (Z.rd hP4).1.at hlt
        have HX := Lib.hid (And.intro hx hA)
        rw [hA] at x0
        have XB := Box.new wr #[.int .i64 x.node, .int .i64 x.v.s.gen, .int .i64 x.v.s.beat, .slice x.v.A x.v.n x.v.c] 37
        have bx := (Below.refl wr.heap.size wr).alloc (Nat.le_refl _) (.cells #[.int .i64 x.node, .int .i64 x.v.s.gen, .int .i64 x.v.s.beat, .slice x.v.A x.v.n x.v.c] 37)
        have hxn : x.v.n ≤ 4000 := HA.out.ok.fit.2.1 x (List.mem_of_getElem? hx)
        have AT : Hid ((s.v.l.take (k + 1)).filter (lvN s) = O ++ [x].filter (lvN s)) := Lib.hid (by rw [take_more hx, List.filter_append, ← HO.out.1])
        clear hx hA
        go_upto_region 16 with fail
        clear x0 x1 x2 d0 d1 d2 d3
        generalize hwb : wr.alloc (.cells #[.int .i64 x.node, .int .i64 x.v.s.gen, .int .i64 x.v.s.beat, .slice x.v.A x.v.n x.v.c] 37) = wb at *
        replace hsr := hsr.belowH bx
        obtain ⟨o, ho⟩ : ∃ o, E.get x.v.s.apps 0 = o := ⟨_, rfl⟩
        have C := rget_any x.v.s.apps 0 x.v.A x.v.n x.v.c wb.heap.size wb hsr (Nat.le_refl _) (by omega)
        rw [ho] at C
        have VO : Hid (Y.valOf x.v.s.apps 0 = (o.getD ⟨0, 0, []⟩).val) := Lib.hid (by unfold Y.valOf; rw [ho]; cases o <;> rfl)
        have n0 := XB.at 0 rfl
        have n1' := XB.at 1 rfl
        have n2 := XB.at 2 rfl
        have n3 := XB.at 3 rfl
        clear ho hwb
        go_wp2_with fail
        refine C.mono ?_
        clear C n0 n1' n2 n3
        rintro e wg ⟨rfl, hb⟩
        obtain ⟨⟨ek, ev0, eval⟩, hev⟩ : ∃ z, o.getD ⟨0, 0, []⟩ = z := ⟨_, rfl⟩
        have hge : getV o = .tuple #[.agg #[.int .i64 ek, .int .i64 ev0, .string (strB eval)], .bool o.isSome] := by cases o with
          | none => obtain ⟨rfl, rfl, rfl⟩ : 0 = ek ∧ 0 = ev0 ∧ [] = eval := by simpa using hev
                    rfl
          | some z => obtain rfl : z = ⟨ek, ev0, eval⟩ := by simpa using hev
                      rfl
        rw [hev] at VO
        rw [hge]
        replace XB := XB.belowH hb
        replace bx := bx.trans (hb.mono bx.size)
        clear hb hev hge hsr
        go_upto_region 17 with fail
        have EB := Box.new wg #[.int .i64 ek, .int .i64 ev0, .string (strB eval)] 39
        have XC := XB.alloc (.cells #[.int .i64 ek, .int .i64 ev0, .string (strB eval)] 39)
        replace bx := bx.alloc bx.size (.cells #[.int .i64 ek, .int .i64 ev0, .string (strB eval)] 39)
        clear XB
        generalize wg.alloc (.cells #[.int .i64 ek, .int .i64 ev0, .string (strB eval)] 39) = wh at *
        have X5 := X4.belowH bx
        have hP5 := Z.sb hP4 bx
        have V5 := ZB.belowH bx
        have own5 := own_belowY own bx
        have bl5 := bl.trans (bx.mono bl.size)
        have x0 := X5.at 0 rfl
        have x1 := X5.at 1 rfl
        have x2 := X5.at 2 rfl
        have z0 := V5.at 0 rfl
        have z1 := V5.at 1 rfl
        have z2 := V5.at 2 rfl
        have zc := V5.cold
        have n0 := XC.at 0 rfl
        have n1' := XC.at 1 rfl
        have n2 := XC.at 2 rfl
        have n3 := XC.at 3 rfl
        have e2 := EB.at 2 rfl
        have hzl5 := V5.lt
        clear X4 hP4 ZB own bl bx hzl
        obtain ⟨ha, eha⟩ : ∃ z, decide (x.node ∈ s.al) = z := ⟨_, rfl⟩
        have C := rchas_any s.al x.node s.B s.m s.d wh.heap.size wh (Z.rd hP5).2 (by have := HA.out.ok.fit.2.2; omega)
        rw [eha] at C
        have LV : Hid (lvN s x = (ha && decide (eval = [117, 112]))) := Lib.hid (by show (decide (x.node ∈ s.al) && decide (Y.valOf x.v.s.apps 0 = [117, 112])) = _; rw [eha, VO.out])
        clear eha hP5 X5
        go_wp2_with fail
        refine C.mono ?_
        clear C
        rintro e wi ⟨rfl, rfl⟩
        cases ha
        · have EO : Hid ((s.v.l.take (k + 1)).filter (lvN s) = O) := Lib.hid (by rw [AT.out, filter_no (by rw [LV.out]; rfl), List.append_nil])
          go_wp2
          go_roundw
          case rel => exact ⟨k + 1, j, A2, c2, O, by omega, by omega, by go_num, Lib.hid ⟨EO.out.symm, HO.out.2⟩, V5, own5, bl5⟩
          case measure => simp [intOf]; omega
        by_cases hup : eval = [117, 112]
        · have s0 : (strB eval == (⟨#[117, 112]⟩ : ByteArray)) = true := by have h := strB_beq eval [117, 112]; rw [decide_eq_true hup] at h; exact h
          have s1 : (eval == [117, 112]) = true := beq_iff_eq.2 hup
          have EO : Hid ((s.v.l.take (k + 1)).filter (lvN s) = O ++ [x]) := Lib.hid (by rw [AT.out, filter_yes (by rw [LV.out, decide_eq_true hup]; rfl)])
          have hbase : wc.heap.size + 1 ≤ wh.heap.size := hzl5
          clear hup
          go_wp2_with (at_builtin; refine pushF_law (f := ncl) (y := x) nmT ncl_len ncl_one rfl (.tmp 93) (.tmp 95) rfl (wc.heap.size + 1) rfl rfl rfl own5 (by omega) (by omega) hbase ?_; rintro A6 c6 w6 own6 hb6 _; have V6 := V5.below hb6 (Nat.lt_succ_self _); have z0 := V6.at 0 rfl; have zc := V6.cold; have zl := V6.lt)
          go_roundw
          case rel => exact ⟨k + 1, j + 1, A6, c6, O ++ [x], by omega, by omega, by go_num, Lib.hid ⟨EO.out.symm, by rw [List.length_append, HO.out.2]; rfl⟩, V6.set 0 (.slice A6 (j + 1) c6), own_set own6 (Nat.lt_succ_self _) _, below_set (o := 0) (bl5.trans (hb6.mono (Nat.le_succ _))) (Nat.le_refl _) _⟩
          case measure => simp [intOf]; omega
        · have s0 : (strB eval == (⟨#[117, 112]⟩ : ByteArray)) = false := by have h := strB_beq eval [117, 112]; rw [decide_eq_false hup] at h; exact h
          have s1 : (eval == [117, 112]) = false := beq_eq_false_iff_ne.2 hup
          have EO : Hid ((s.v.l.take (k + 1)).filter (lvN s) = O) := Lib.hid (by rw [AT.out, filter_no (by rw [LV.out, decide_eq_false hup]; rfl), List.append_nil])
          clear hup
          go_wp2
          go_roundw
          case rel => exact ⟨k + 1, j, A2, c2, O, by omega, by omega, by go_num, Lib.hid ⟨EO.out.symm, HO.out.2⟩, V5, own5, bl5⟩
          case measure => simp [intOf]; omega
      · have g1 : decide ((k : Int) < (s.v.n : Int)) = false := decide_eq_false (by omega)
        have EO : Hid (O = s.v.l.filter (lvN s)) := Lib.hid (by rw [HO.out.1, List.take_of_length_le (by have := (Z.rd hP4).1.len; omega)])
        have hn40 := HN1.out
        obtain ⟨PL, ZL, hPL⟩ : ∃ P, ZCon (s.less O A2 j c2) P ∧ P wr := ⟨_, zcon_of (less_arg HA.out EO.out (by omega) (own_cap own)), ⟨⟨Rd.of_own own, fun x hx => (Z.rd hP4).1.2 x (by rw [EO.out] at hx; exact (List.mem_filter.1 hx).1)⟩, (Z.rd hP4).2⟩⟩
        have b4 := b.trans (bl.mono b.size)
        obtain ⟨iz, eiz⟩ : ∃ z, Zo.is s.sc nm = z := ⟨_, rfl⟩
        have q1 : (iz == iz) = true := beq_self_eq_true _
        have T1 := Lib.hid (fun W (h : P W) => Z.tell (nm := nm) 33 h HN2.out)
        have T2 := Lib.hid (fun W (h : PL W) => ZL.tell (nm := nm) 33 h HN2.out)
        have I1 := Lib.hid (fun W (h : P W) => Z.is (nm := nm) h HN2.out)
        have I2 := Lib.hid (fun W (h : PL W) => ZL.is (nm := nm) h HN2.out)
        have hrs : V.rising s.sc.view := HA.out.right.2
        rw [less_sc EO.out, Zo.less33 hrs] at T2
        rw [less_sc EO.out, Zo.is_less hrs, eiz] at I2
        rw [eiz] at I1
        have TL : Hid ((Zo.tell s.sc nm 33).length ≤ 4000000) := Lib.hid (otell_few (Z.rd hP4) HA.out nm 33)
        clear eiz hrs own bl hn40 X hP b HO EO hzl
        go_upto_region 19 with fail
        clear x0 x1 x2
        replace X4 := X4.drew
        replace ZB := ZB.drew
        replace hP4 := Z.sb hP4 ((Below.refl _ _).drew)
        replace hPL := ZL.sb hPL ((Below.refl _ _).drew)
        replace b4 := b4.drew
        have x0 := X4.at 0 rfl
        have x1 := X4.at 1 rfl
        have x2 := X4.at 2 rfl
        have z0 := ZB.at 0 rfl
        have z1 := ZB.at 1 rfl
        have z2 := ZB.at 2 rfl
        refine wp_region_held_drew (S := (fun w' => (w'.cell? ⟨W.heap.size, 0, none⟩ = some (.slice s.v.A s.v.n s.v.c) ∧ w'.cell? ⟨W.heap.size, 1, none⟩ = some (.slice s.B s.m s.d) ∧ w'.cell? ⟨W.heap.size, 2, none⟩ = some (.string (strB s.dom))) ∧ (w'.cell? ⟨wc.heap.size, 0, none⟩ = some (.slice A2 j c2) ∧ w'.cell? ⟨wc.heap.size, 1, none⟩ = some (.slice s.B s.m s.d) ∧ w'.cell? ⟨wc.heap.size, 2, none⟩ = some (.string (strB s.dom))))) (by kernel_rfl) (by exact ⟨⟨x0, x1, x2⟩, z0, z1, z2⟩) (fun hHeld0 => ?_)
        refine tk 0 98 rfl hHeld0 ?_
        refine tk 1 99 rfl hHeld0 ?_
        refine tk 3 101 rfl hHeld0 ?_
        refine tk 4 102 rfl hHeld0 ?_
        refine wpAnyH_ready (rs := [2]) (by kernel_rfl) (by simp) (AllReadyH.cons (o := ⟨some 100, _, _, _, _, _⟩) rfl (fun K hK => ?_) AllReadyH.nil)
        go_simp
        (refine (T1.out _ hP4).mono ?_; rintro e wc1 ⟨A5, n5, c5, rfl, hl5, R5, _, hb⟩; replace X4 := X4.belowH hb; replace ZB := ZB.belowH hb; replace hP4 := Z.sb hP4 hb; replace hPL := ZL.sb hPL hb; replace b4 := b4.trans (hb.mono b4.size); clear hb x0 x1 x2 z0 z1 z2; have x0 := X4.at 0 rfl; have x1 := X4.at 1 rfl; have x2 := X4.at 2 rfl; have z0 := ZB.at 0 rfl; have z1 := ZB.at 1 rfl; have z2 := ZB.at 2 rfl)
        go_simp
        refine hK.out _ _ (by exact ⟨⟨x0, x1, x2⟩, z0, z1, z2⟩) (fun hHeld1 => ?_)
        clear hK hHeld0 K
        try simp only [Act.put, sA, sB, sC]
        refine wpAnyH_ready (rs := [5]) (by kernel_rfl) (by simp) (AllReadyH.cons (o := ⟨some 103, _, _, _, _, _⟩) rfl (fun K hK => ?_) AllReadyH.nil)
        go_simp
        (refine (T2.out _ hPL).mono ?_; rintro e wc2 ⟨A6, n6, c6, rfl, hl6, R6, _, hb⟩; replace X4 := X4.belowH hb; replace ZB := ZB.belowH hb; replace hP4 := Z.sb hP4 hb; replace hPL := ZL.sb hPL hb; replace b4 := b4.trans (hb.mono b4.size); replace R5 := R5.belowH hb; clear hb x0 x1 x2 z0 z1 z2; have x0 := X4.at 0 rfl; have x1 := X4.at 1 rfl; have x2 := X4.at 2 rfl; have z0 := ZB.at 0 rfl; have z1 := ZB.at 1 rfl; have z2 := ZB.at 2 rfl)
        go_simp
        refine hK.out _ _ (by exact ⟨⟨x0, x1, x2⟩, z0, z1, z2⟩) (fun hHeld2 => ?_)
        clear hK hHeld1 K
        try simp only [Act.put, sA, sB, sC]
        refine wpAnyH_ready (rs := [6]) (by kernel_rfl) (by simp) (AllReadyH.cons (o := ⟨some 104, _, _, _, _, _⟩) rfl (fun K hK => ?_) AllReadyH.nil)
        go_simp
        (refine (rsamers_at (decide_eq_true rfl) A5 A6 n5 n6 c5 c6 _ R5 R6 (by have := TL.out; omega) (by have := TL.out; omega)).mono ?_; rintro e wc3 ⟨rfl, hb⟩; clear R5 R6; replace X4 := X4.belowH hb; replace ZB := ZB.belowH hb; replace hP4 := Z.sb hP4 hb; replace hPL := ZL.sb hPL hb; replace b4 := b4.trans (hb.mono b4.size); clear hb x0 x1 x2 z0 z1 z2; have x0 := X4.at 0 rfl; have x1 := X4.at 1 rfl; have x2 := X4.at 2 rfl; have z0 := ZB.at 0 rfl; have z1 := ZB.at 1 rfl; have z2 := ZB.at 2 rfl)
        go_simp
        refine hK.out _ _ (by exact ⟨⟨x0, x1, x2⟩, z0, z1, z2⟩) (fun hHeld3 => ?_)
        clear hK hHeld2 K
        try simp only [Act.put, sA, sB, sC]
        refine tk 7 105 rfl hHeld3 ?_
        refine tk 8 106 rfl hHeld3 ?_
        refine tk 9 107 rfl hHeld3 ?_
        refine tk 11 109 rfl hHeld3 ?_
        refine tk 12 110 rfl hHeld3 ?_
        refine wpAnyH_ready (rs := [10]) (by kernel_rfl) (by simp) (AllReadyH.cons (o := ⟨some 108, _, _, _, _, _⟩) rfl (fun K hK => ?_) AllReadyH.nil)
        go_simp
        (refine (I1.out _ hP4).mono ?_; rintro e wc4 ⟨rfl, hb⟩; replace X4 := X4.belowH hb; replace ZB := ZB.belowH hb; replace hP4 := Z.sb hP4 hb; replace hPL := ZL.sb hPL hb; replace b4 := b4.trans (hb.mono b4.size); clear hb x0 x1 x2 z0 z1 z2; have x0 := X4.at 0 rfl; have x1 := X4.at 1 rfl; have x2 := X4.at 2 rfl; have z0 := ZB.at 0 rfl; have z1 := ZB.at 1 rfl; have z2 := ZB.at 2 rfl)
        go_simp
        refine hK.out _ _ (by exact ⟨⟨x0, x1, x2⟩, z0, z1, z2⟩) (fun hHeld4 => ?_)
        clear hK hHeld3 K
        try simp only [Act.put, sA, sB, sC]
        refine wpAnyH_ready (rs := [13]) (by kernel_rfl) (by simp) (AllReadyH.cons (o := ⟨some 111, _, _, _, _, _⟩) rfl (fun K hK => ?_) AllReadyH.nil)
        go_simp
        (refine (I2.out _ hPL).mono ?_; rintro e wc5 ⟨rfl, hb⟩; replace X4 := X4.belowH hb; replace ZB := ZB.belowH hb; replace hP4 := Z.sb hP4 hb; replace hPL := ZL.sb hPL hb; replace b4 := b4.trans (hb.mono b4.size); clear hb x0 x1 x2 z0 z1 z2; have x0 := X4.at 0 rfl; have x1 := X4.at 1 rfl; have x2 := X4.at 2 rfl; have z0 := ZB.at 0 rfl; have z1 := ZB.at 1 rfl; have z2 := ZB.at 2 rfl)
        go_simp
        refine hK.out _ _ (by exact ⟨⟨x0, x1, x2⟩, z0, z1, z2⟩) (fun hHeld5 => ?_)
        clear hK hHeld4 K
        try simp only [Act.put, sA, sB, sC]
        refine tk 14 112 rfl hHeld5 ?_
        refine tk 15 113 rfl hHeld5 ?_
        refine tk 16 4 rfl hHeld5 ?_
        refine wpAnyH_done (by kernel_rfl) ?_ _
        go_wp2
        go_ret
        exact ⟨rfl, b4⟩
end Go.Proofs.YtmbfldcmiabccaaDoor

