/- OC15 OCode OCon OKal ZRef ZRef2 (merged). -/
import Derived.Laws.StructEq
import Derived.Test.YtmbfldcmiabccaaGreatDoorJF09
import Derived.Test.YtmbfldcmiabccaaGreatDoorJF10
import Derived.Test.YtmbfldcmiabccaaGreatDoorJF12
import Derived.Test.YtmbfldcmiabccaaGreatDoorJF19
namespace Go.Proofs.YtmbfldcmiabccaaGreatDoor
set_option linter.unusedVariables false
set_option linter.unusedSimpArgs false
open Go.RowKit
set_option maxHeartbeats 8000000 in
set_option maxRecDepth 20000 in
theorem otell33 (s : Sn) (name : List UInt8) (w : World) (h : SnRd w s) (ha : SnArg s) (hn : name.length ≤ 1000) : Calls Tryz.prog 17 #[snval s, .string (strB name), .int .i64 33] w (RdRc (Zo.tell s.sc name 33) w) := by
  have X0 := (((Box.new w #[.slice s.v.A s.v.n s.v.c, .slice s.B s.m s.d, .string (strB s.dom)] 25).alloc (.cells #[.string (strB name)] 9)).alloc (.cells #[.int .i64 33] 3)).alloc (.cells #[.slice none 0 0] 39)
  have X1 := ((Box.new (w.alloc (.cells #[.slice s.v.A s.v.n s.v.c, .slice s.B s.m s.d, .string (strB s.dom)] 25)) #[.string (strB name)] 9).alloc (.cells #[.int .i64 33] 3)).alloc (.cells #[.slice none 0 0] 39)
  have X2 := (Box.new ((w.alloc (.cells #[.slice s.v.A s.v.n s.v.c, .slice s.B s.m s.d, .string (strB s.dom)] 25)).alloc (.cells #[.string (strB name)] 9)) #[.int .i64 33] 3).alloc (.cells #[.slice none 0 0] 39)
  have X3 := Box.new (((w.alloc (.cells #[.slice s.v.A s.v.n s.v.c, .slice s.B s.m s.d, .string (strB s.dom)] 25)).alloc (.cells #[.string (strB name)] 9)).alloc (.cells #[.int .i64 33] 3)) #[.slice none 0 0] 39
  simp only [World.size_alloc] at X1 X2 X3
  have bw : Below w.heap.size w ((((w.alloc (.cells #[.slice s.v.A s.v.n s.v.c, .slice s.B s.m s.d, .string (strB s.dom)] 25)).alloc (.cells #[.string (strB name)] 9)).alloc (.cells #[.int .i64 33] 3)).alloc (.cells #[.slice none 0 0] 39)) := (((((Below.refl w.heap.size w).alloc (Nat.le_refl _) _).alloc (by simp) _).alloc (by simp; omega) _).alloc (by simp; omega) _)
  have hob : w.heap.size + 1 + 1 + 1 < ((((w.alloc (.cells #[.slice s.v.A s.v.n s.v.c, .slice s.B s.m s.d, .string (strB s.dom)] 25)).alloc (.cells #[.string (strB name)] 9)).alloc (.cells #[.int .i64 33] 3)).alloc (.cells #[.slice none 0 0] 39)).heap.size := by simp
  have EG := egLay
  have ED : Hid (Zo.datas s.sc name 33 = ((s.v.l.filter (cnv s.al)).map Nv.nm).flatMap (Zo.svsAt s.dom name)) := Lib.hid (by rw [Zo.srvs_cing (s := s.sc) ha.right.2 name]; show (Zo.cing s.al s.v.view).flatMap _ = _; rw [cing_nv]; rfl)
  have hd := ha.ok.dom
  simp only [snval]
  go_enter Tryz.func17, Tryz.ntmps17
  go_upto_region 16 with fail
  generalize ((((w.alloc (.cells #[.slice s.v.A s.v.n s.v.c, .slice s.B s.m s.d, .string (strB s.dom)] 25)).alloc (.cells #[.string (strB name)] 9)).alloc (.cells #[.int .i64 33] 3)).alloc (.cells #[.slice none 0 0] 39)) = w0 at *
  have HI : OutI name 33 (w.heap.size + 1 + 1 + 1) w0.heap.size [] w0 := ⟨none, 0, 0, X3, Lib.hid rfl, World.ownsRow_nil _ _ _ _⟩
  have HB : Below (w.heap.size + 1 + 1 + 1) w0 w0 := Below.refl _ _
  have hs0 : w0.heap.size ≤ w0.heap.size := Nat.le_refl _
  clear X3
  have x0 := (X0.below HB (by omega)).at 0 rfl
  have x1 := (X0.below HB (by omega)).at 1 rfl
  have x2 := (X0.below HB (by omega)).at 2 rfl
  have z0 := (X1.below HB (by omega)).at 0 rfl
  have t0 := (X2.below HB (by omega)).at 0 rfl
  have CC := ocounting_any s w0 (h.belowH (bw.trans (HB.mono (by omega)))) ha.ok
  obtain ⟨C, eC⟩ : ∃ z, s.v.l.filter (cnv s.al) = z := ⟨_, rfl⟩
  rw [eC] at CC
  have HC : Hid (∀ x ∈ C, x.v.n ≤ 4000 ∧ (∀ y ∈ x.v.s.apps, y.val.length ≤ 140737488351232) ∧ SRd w x.v) := Lib.hid (by
    intro x hx
    rw [← eC] at hx
    have hm := (List.mem_filter.1 hx).1
    exact ⟨ha.ok.fit.2.1 x hm, ha.ok.val x.nm (List.mem_map.2 ⟨x, hm, rfl⟩), h.1.2 x hm⟩)
  have CN : Hid (C.length ≤ 1000) := Lib.hid (by rw [← eC]; exact Nat.le_trans (List.length_filter_le _ _) (by have h1 := h.1.len; have := ha.ok.fit.1; omega))
  have EC := Lib.hid eC
  simp only [snval] at CC
  clear eC
  go_wp2_with fail
  refine CC.mono ?_
  clear CC
  rintro e v1 ⟨Ac, nc, cc, rfl, hlc, HO, hb⟩
  clear x0 x1 x2 z0 t0
  replace HI := HI.belowH hb
  replace HB := HB.trans (hb.mono (by omega))
  replace hs0 : w0.heap.size ≤ v1.heap.size := Nat.le_trans hs0 hb.size
  clear hb
  have HLC := Lib.hid hlc
  have hnc : nc ≤ 1000 := by have := CN.out; omega
  clear hlc
  have ED2 : Hid (Zo.datas s.sc name 33 = (C.map Nv.nm).flatMap (Zo.svsAt s.dom name)) := Lib.hid (by rw [ED.out, EC.out])
  clear ED h
  go_wp2
  go_loopw [70] (fun i wr => ∃ (k : Nat), k ≤ nc ∧ i = .int .i64 (k : Int) ∧ OutI name 33 (w.heap.size + 1 + 1 + 1) w0.heap.size (((C.take k).map Nv.nm).flatMap (Zo.svsAt s.dom name)) wr ∧ wr.ownsRow w0.heap.size 53 4 (.slice Ac nc cc) nc (FC ncl C) ∧ w0.heap.size ≤ wr.heap.size ∧ Below (w.heap.size + 1 + 1 + 1) w0 wr) (fun i _ => nc - (intOf i).toNat)
  case atStart => exact ⟨0, Nat.zero_le _, rfl, HI, HO, hs0, HB⟩
  case round =>
    clear HI HO HB hs0
    obtain ⟨k, hk, rfl, HI, HO, hs0, HB⟩ := hrel
    by_cases hlt : k < nc
    · skip
      have hr := HC.out
      obtain ⟨bq, oq, x, e1, hbq, hx, hsx, d0, d1, d2, d3⟩ := (show VRd wr ⟨C, Ac, nc, cc⟩ from ⟨Rd.of_own HO, fun x hx => (hr x hx).2.2.belowH (bw.trans (HB.mono (by omega)))⟩).at hlt
      simp only at e1 hx
      subst e1
      have HX := Lib.hid hx
      have hxf := HC.out x (List.mem_of_getElem? hx)
      have HXN := Lib.hid hxf.1
      have HXV := Lib.hid hxf.2.1
      have HXS := Lib.hid hxf.2.2
      have hk0 : (0 : Int) ≤ (k : Int) := by omega
      clear hx hr hxf hsx
      have hb := (Below.refl wr.heap.size wr).alloc (Nat.le_refl _) (.cells #[.int .i64 x.node, .int .i64 x.v.s.gen, .int .i64 x.v.s.beat, .slice x.v.A x.v.n x.v.c] 53)
      have NBX := Box.new wr #[.int .i64 x.node, .int .i64 x.v.s.gen, .int .i64 x.v.s.beat, .slice x.v.A x.v.n x.v.c] 53
      replace HO := own_below HO hb
      replace HI := HI.belowH hb
      replace HB := HB.trans (hb.mono (by omega))
      replace hs0 : w0.heap.size ≤ (wr.alloc (.cells #[.int .i64 x.node, .int .i64 x.v.s.gen, .int .i64 x.v.s.beat, .slice x.v.A x.v.n x.v.c] 53)).heap.size := Nat.le_trans hs0 hb.size
      clear hb
      go_upto_region 19 with fail
      generalize (wr.alloc (.cells #[.int .i64 x.node, .int .i64 x.v.s.gen, .int .i64 x.v.s.beat, .slice x.v.A x.v.n x.v.c] 53)) = v2 at *
      clear d0 d1 d2 d3
      have x0 := (X0.below HB (by omega)).at 0 rfl
      have x1 := (X0.below HB (by omega)).at 1 rfl
      have x2 := (X0.below HB (by omega)).at 2 rfl
      have z0 := (X1.below HB (by omega)).at 0 rfl
      have t0 := (X2.below HB (by omega)).at 0 rfl
      have y0 := NBX.at 0 rfl
      have y1 := NBX.at 1 rfl
      have y2 := NBX.at 2 rfl
      have y3 := NBX.at 3 rfl
      have CF := ooffered_any s x name v2 (HXS.out.belowH (bw.trans (HB.mono (by omega)))) HXN.out HXV.out hd (by omega)
      have FO : Hid ((Zo.off s.dom name x.v.s.apps).length ≤ 4000 ∧ ∀ o ∈ Zo.off s.dom name x.v.s.apps, Y.right o) := Lib.hid (by
        have h1 : x.v.s.apps.length ≤ 4000 := by have := HXS.out.lenE; have := HXN.out; omega
        have h2 : (Y.all x.v.s.apps).length ≤ x.v.s.apps.length := by rw [Y.all_lst, List.length_map]; exact Y.lst_len _
        refine ⟨?_, fun o ho => all_rightO _ o (List.mem_filter.1 ho).1⟩
        have h3 : (Zo.off s.dom name x.v.s.apps).length ≤ (Y.all x.v.s.apps).length := List.length_filter_le _ _
        omega)
      have more : ((C.take (k + 1)).map Nv.nm).flatMap (Zo.svsAt s.dom name) = ((C.take k).map Nv.nm).flatMap (Zo.svsAt s.dom name) ++ (Zo.off s.dom name x.v.s.apps).flatMap (Zo.svAt s.dom x.node) := by rw [take_more HX.out, List.map_append, List.flatMap_append]; simp [Zo.svsAt, Nv.nm]
      obtain ⟨M, eM⟩ : ∃ z, Zo.off s.dom name x.v.s.apps = z := ⟨_, rfl⟩
      rw [eM] at CF FO more
      have MORE := Lib.hid more
      have few : (((C.take k).map Nv.nm).flatMap (Zo.svsAt s.dom name)).length ≤ 4000000 := by
        have h1 := flat_lenO (Zo.svsAt s.dom name) 4000 ((C.take k).map Nv.nm) (fun y hy => by
          obtain ⟨z, hz, rfl⟩ := List.mem_map.1 hy
          have h2 := HC.out z (List.mem_of_mem_take hz)
          have h3 : z.v.s.apps.length ≤ 4000 := by have := h2.2.2.lenE; have := h2.1; omega
          have h4 : (Y.all z.v.s.apps).length ≤ z.v.s.apps.length := by rw [Y.all_lst, List.length_map]; exact Y.lst_len _
          have h5 : (Zo.off s.dom name z.v.s.apps).length ≤ (Y.all z.v.s.apps).length := List.length_filter_le _ _
          have h6 := flat_lenO (Zo.svAt s.dom z.node) 1 (Zo.off s.dom name z.v.s.apps) (fun o _ => by unfold Zo.svAt; split <;> simp)
          show ((Zo.off s.dom name z.v.s.apps).flatMap (Zo.svAt s.dom z.node)).length ≤ 4000
          omega)
        rw [List.length_map] at h1
        have h2 : (C.take k).length ≤ 1000 := Nat.le_trans (List.length_take_le _ _) (by omega)
        have h3 : (C.take k).length * 4000 ≤ 1000 * 4000 := Nat.mul_le_mul_right _ h2
        omega
      have FEW := Lib.hid few
      obtain ⟨D0, eD⟩ : ∃ z, ((C.take k).map Nv.nm).flatMap (Zo.svsAt s.dom name) = z := ⟨_, rfl⟩
      rw [eD] at HI MORE FEW
      simp only [snval, nv] at CF
      clear eM eD more few
      go_wp2_with fail
      refine CF.mono ?_
      clear CF
      rintro e v3 ⟨Am, nm, cm, rfl, hlm, HM, hb⟩
      clear x0 x1 x2 z0 t0
      clear y0 y1 y2 y3
      replace HO := own_below HO hb
      replace NBX := NBX.belowH hb
      replace HI := HI.belowH hb
      replace HB := HB.trans (hb.mono (by omega))
      replace hs0 : w0.heap.size ≤ v3.heap.size := Nat.le_trans hs0 hb.size
      clear hb
      have HLM := Lib.hid hlm
      have hnm : nm ≤ 4000 := by have := FO.out.1; omega
      clear hlm
      generalize wr.heap.size = wq at *
      generalize wr = wo at *
      go_wp2
      go_loopw [79] (fun i wr => ∃ (j : Nat), j ≤ nm ∧ i = .int .i64 (j : Int) ∧ OutI name 33 (w.heap.size + 1 + 1 + 1) w0.heap.size (D0 ++ (M.take j).flatMap (Zo.svAt s.dom x.node)) wr ∧ wr.ownsRow w0.heap.size 53 4 (.slice (some ⟨bq, oq, none⟩) nc cc) nc (FC ncl C) ∧ wr.ownsRow v2.heap.size 46 6 (.slice Am nm cm) nm (FC yc M) ∧ Box wr wq 53 #[.int .i64 x.node, .int .i64 x.v.s.gen, .int .i64 x.v.s.beat, .slice x.v.A x.v.n x.v.c] ∧ w0.heap.size ≤ wr.heap.size ∧ Below (w.heap.size + 1 + 1 + 1) w0 wr) (fun i _ => nm - (intOf i).toNat)
      case atStart => exact ⟨0, Nat.zero_le _, rfl, HI.eq (by simp), HO, HM, NBX, hs0, HB⟩
      case round =>
        clear HI HO HM NBX HB hs0
        obtain ⟨j, hj, rfl, HI, HO, HM, NBX, hs0, HB⟩ := hrel
        by_cases hlj : j < nm
        · skip
          obtain ⟨bm, om, o, e1, hbm, ho, g0, g1, g2, g3, g4, g5⟩ := (show Rd wr wr.heap.size 6 Am nm (YC M) from Rd.of_own HM).atY hlj
          subst e1
          have HOJ := Lib.hid ho
          have HOR := Lib.hid (FO.out.2 o (List.mem_of_getElem? ho))
          have hj0 : (0 : Int) ≤ (j : Int) := by omega
          obtain ⟨on, op, o2, o3, o4, o5⟩ := o
          simp only at g0 g1 g2 g3 g4 g5
          clear ho
          have hb := (Below.refl wr.heap.size wr).alloc (Nat.le_refl _) (.cells #[.string (strB on), .string (strB op), .int .i64 o2, .int .i64 o3, .int .i64 o4, .bool o5] 46)
          have SBX := Box.new wr #[.string (strB on), .string (strB op), .int .i64 o2, .int .i64 o3, .int .i64 o4, .bool o5] 46
          replace HO := own_below HO hb
          replace HM := own_below HM hb
          replace NBX := NBX.belowH hb
          replace HI := HI.belowH hb
          replace HB := HB.trans (hb.mono (by omega))
          replace hs0 : w0.heap.size ≤ (wr.alloc (.cells #[.string (strB on), .string (strB op), .int .i64 o2, .int .i64 o3, .int .i64 o4, .bool o5] 46)).heap.size := Nat.le_trans hs0 hb.size
          clear hb
          go_upto_region 22 with fail
          generalize (wr.alloc (.cells #[.string (strB on), .string (strB op), .int .i64 o2, .int .i64 o3, .int .i64 o4, .bool o5] 46)) = v4 at *
          clear g0 g1 g2 g3 g4 g5
          have x0 := (X0.below HB (by omega)).at 0 rfl
          have x1 := (X0.below HB (by omega)).at 1 rfl
          have x2 := (X0.below HB (by omega)).at 2 rfl
          have z0 := (X1.below HB (by omega)).at 0 rfl
          have t0 := (X2.below HB (by omega)).at 0 rfl
          have y0 := NBX.at 0 rfl
          have y1 := NBX.at 1 rfl
          have y2 := NBX.at 2 rfl
          have y3 := NBX.at 3 rfl
          have q0 := SBX.at 0 rfl
          have q1 := SBX.at 1 rfl
          have q2 := SBX.at 2 rfl
          have q3 := SBX.at 3 rfl
          have q4 := SBX.at 4 rfl
          have q5 := SBX.at 5 rfl
          have CW := owhere_any s x.node ⟨on, op, o2, o3, o4, o5⟩ v4 hd HOR.out
          obtain ⟨hok, eok⟩ : ∃ z, (Zo.hostN s.dom x.node).2 = z := ⟨_, rfl⟩
          rw [eok] at CW
          have morej : (M.take (j + 1)).flatMap (Zo.svAt s.dom x.node) = (M.take j).flatMap (Zo.svAt s.dom x.node) ++ (if hok = true then [Zo.srvD s.dom x.node ⟨on, op, o2, o3, o4, o5⟩] else []) := by rw [take_more HOJ.out, List.flatMap_append, ← eok]; simp [Zo.svAt]
          obtain ⟨t, et⟩ : ∃ z, Zo.srvD s.dom x.node ⟨on, op, o2, o3, o4, o5⟩ = z := ⟨_, rfl⟩
          rw [et] at CW morej
          have MJ := Lib.hid morej
          have fewj : (D0 ++ (M.take j).flatMap (Zo.svAt s.dom x.node)).length ≤ 4004000 := by
            have h1 := flat_lenO (Zo.svAt s.dom x.node) 1 (M.take j) (fun o _ => by unfold Zo.svAt; split <;> simp)
            have h2 : (M.take j).length ≤ j := List.length_take_le _ _
            have h3 := FEW.out
            rw [List.length_append]
            omega
          have FJ := Lib.hid fewj
          simp only [snval, ysv] at CW
          clear eok et morej fewj
          go_wp2_with fail
          refine (CW).mono ?_
          rintro e v5 ⟨rfl, hb⟩
          clear x0 x1 x2 z0 t0
          clear y0 y1 y2 y3 q0 q1 q2 q3 q4 q5
          replace HO := own_below HO hb
          replace HM := own_below HM hb
          replace NBX := NBX.belowH hb
          replace SBX := SBX.belowH hb
          replace HI := HI.belowH hb
          replace HB := HB.trans (hb.mono (by omega))
          replace hs0 : w0.heap.size ≤ v5.heap.size := Nat.le_trans hs0 hb.size
          clear hb
          clear CW
          cases hok with
          | false =>
            go_wp2_with fail
            refine (olay_no t _ _ _ v5).mono ?_
            rintro e v6 ⟨rfl, rfl⟩
            go_wp2
            go_roundw
            case rel => exact ⟨j + 1, by omega, by go_num, HI.eq (by rw [MJ.out]; simp), HO, HM, NBX, hs0, HB⟩
            case measure => simp [intOf]; omega
          | true =>
            have CL := olay_yes name 33 t (w.heap.size + 1 + 1 + 1) (w.heap.size + 1) (w.heap.size + 1 + 1) w0.heap.size (D0 ++ (M.take j).flatMap (Zo.svAt s.dom x.node)) v5 (X1.below HB (by omega)) (X2.below HB (by omega)) HI (by omega) hs0 (by have := FJ.out; omega)
            go_wp2_with fail
            refine CL.mono ?_
            clear CL
            rintro e v6 ⟨rfl, HI2, hk, hb⟩
            replace HO := hk.own HO (by decide) (by decide)
            replace HM := hk.own HM (by decide) (by decide)
            replace NBX := hk.box NBX (by decide) (by decide)
            replace SBX := hk.box SBX (by decide) (by decide)
            replace HI := HI2
            replace HB := HB.trans hb
            replace hs0 : w0.heap.size ≤ v6.heap.size := Nat.le_trans hs0 hb.size
            clear hb hk HI2
            go_wp2
            go_roundw
            case rel => exact ⟨j + 1, by omega, by go_num, HI.eq (by rw [MJ.out]; simp), HO, HM, NBX, hs0, HB⟩
            case measure => simp [intOf]; omega
        · skip
          have HM1 : Hid (D0 ++ (M.take j).flatMap (Zo.svAt s.dom x.node) = ((C.take (k + 1)).map Nv.nm).flatMap (Zo.svsAt s.dom name)) := Lib.hid (by rw [MORE.out, List.take_of_length_le (by have := HLM.out; omega)])
          go_wp2
          go_roundw
          case rel => exact ⟨k + 1, by omega, by go_num, HI.eq HM1.out, HO, hs0, HB⟩
          case measure => simp [intOf]; omega
    · skip
      have E1 : Hid (Zo.datas s.sc name 33 = ((C.take k).map Nv.nm).flatMap (Zo.svsAt s.dom name)) := Lib.hid (by rw [ED2.out, List.take_of_length_le (by have := HLC.out; omega)])
      obtain ⟨A9, n9, c9, XO9, hn9, own9⟩ := HI
      have o9 := XO9.at 0 rfl
      have E9 : Hid (Zo.tell s.sc name 33 = (((C.take k).map Nv.nm).flatMap (Zo.svsAt s.dom name)).map (Zo.rcd name 33)) := Lib.hid (by show (Zo.datas s.sc name 33).map _ = _; rw [E1.out])
      go_wp2
      go_ret
      exact ⟨A9, n9, c9, rfl, by rw [E9.out, List.length_map]; exact hn9.out, by rw [E9.out]; exact Rd.of_own own9, own_cap own9, bw.trans (HB.mono (by omega))⟩
theorem otell_any (s : Sn) (name : List UInt8) (typ : Int) (w : World) (h : SnRd w s) (ha : SnArg s) (hn : name.length ≤ 1000) (HT : TyOk typ) : Calls Tryz.prog 17 #[snval s, .string (strB name), .int .i64 typ] w (RdRc (Zo.tell s.sc name typ) w) := by
  by_cases h1 : typ = 1
  · subst h1; exact otell1 s name w h ha hn
  by_cases h28 : typ = 28
  · subst h28; exact otell28 s name w h ha hn
  by_cases h2 : typ = 2
  · subst h2; exact otell2 s name w h ha hn
  by_cases h6 : typ = 6
  · subst h6; exact otell6 s name w h ha hn
  by_cases h33 : typ = 33
  · subst h33; exact otell33 s name w h ha hn
  exact otellN s name typ w h ha hn HT h1 h28 h2 h6 h33
end Go.Proofs.YtmbfldcmiabccaaGreatDoor

namespace Go.Proofs.YtmbfldcmiabccaaGreatDoor
set_option linter.unusedVariables false
set_option linter.unusedSimpArgs false
open Go.RowKit
/-- what may be asked of a scene in worlds in which it reads -/
structure ZCon (s : Sn) (P : World → Prop) : Prop where
  sb : ∀ {W W' : World}, P W → Below W.heap.size W W' → P W'
  counts : ∀ {W : World}, P W → Calls Tryz.prog 12 #[snval s] W (RdI (Zo.counts s.sc) W)
  host : ∀ {W : World} (y : Int), P W → Calls Tryz.prog 7 #[snval s, .int .i64 y] W (TxB (Zo.hostN s.dom y).1 (Zo.hostN s.dom y).2 W)
  is : ∀ {W : World} {nm : List UInt8}, P W → nm.length ≤ 1000 → Calls Tryz.prog 14 #[snval s, .string (strB nm)] W (BoB (Zo.is s.sc nm) W)
  tell : ∀ {W : World} {nm : List UInt8} (ty : Int), P W → nm.length ≤ 1000 → (hT : TyOk ty := by (first | assumption | exact tyOk ⟨by decide, by decide⟩ | exact tyOk (by omega))) → Calls Tryz.prog 17 #[snval s, .string (strB nm), .int .i64 ty] W (RdRc (Zo.tell s.sc nm ty) W)
  start : ∀ {W : World}, P W → Calls Tryz.prog 9 #[snval s] W (RecB (Zo.startOf s.dom).1 (Zo.startOf s.dom).2 W)
  rcounts : ∀ {W : World}, P W → Calls Tryz.prog 13 #[snval s] W (RdI (Zo.counts s.sc) W)
  rhost : ∀ {W : World} (y : Int), P W → Calls Tryz.prog 8 #[snval s, .int .i64 y] W (TxB (Zo.hostN s.dom y).1 (Zo.hostN s.dom y).2 W)
  ris : ∀ {W : World} {nm : List UInt8}, P W → nm.length ≤ 1000 → Calls Tryz.prog 15 #[snval s, .string (strB nm)] W (BoB (Zo.is s.sc nm) W)
  rtell : ∀ {W : World} {nm : List UInt8} (ty : Int), P W → nm.length ≤ 1000 → Calls Tryz.prog 18 #[snval s, .string (strB nm), .int .i64 ty] W (RdRc (Zo.tell s.sc nm ty) W)
  rstart : ∀ {W : World}, P W → Calls Tryz.prog 10 #[snval s] W (RecB (Zo.startOf s.dom).1 (Zo.startOf s.dom).2 W)
  get : ∀ {W : World} (y : Int), P W → Calls Tryz.prog 44 #[vval s.v, .int .i64 y] W (MadeGF W (V.get s.v.view y))
  rd : ∀ {W : World}, P W → SnRd W s
theorem zcon_of {s : Sn} (ha : SnArg s) : ZCon s (fun W => SnRd W s) where
  sb := fun h hb => h.belowH hb
  counts := fun h => ocounts_any s _ h ha
  host := fun y h => ohost_any s y _ h ha
  is := fun h hn => ois_any s _ _ h ha hn
  tell := fun ty h hn hT => otell_any s _ ty _ h ha hn hT
  start := fun h => ostart_any s _ h ha
  rcounts := fun h => (rocounts_any s _ h ha.ok.fit).mono fun _ _ h => h.rd
  rhost := fun y h => rohost_any _ _ _ _ _ _ _ y _ ha.ok.dom
  ris := fun h hn => rois_any s _ _ h ha.ok (by omega)
  rtell := fun ty h hn => (rotell_any s _ ty _ h ha.ok (by omega)).mono fun _ _ h => h.rd
  rstart := fun h => rostartR_any _ _ _ _ _ _ _ _ ha.ok.dom
  get := fun y h => rvgetF_any s.v y _ h.1 ha.ok.fit.1 ha.ok.fit.2.1
  rd := fun h => h
theorem ogreat_small {w : World} {s : Sn} (h : SnRd w s) (hg : SnGreat s = false) : s.v.n ≤ 40 ∧ VFit s.v ∧ s.m ≤ 50 ∧ s.dom.length ≤ 500 := by
  unfold SnGreat at hg
  simp only [Bool.or_eq_false_iff] at hg
  obtain ⟨⟨h1, h2⟩, h3⟩ := hg
  have h2 := of_decide_eq_false h2
  have h3 := of_decide_eq_false h3
  unfold vgreatB at h1
  rw [Bool.or_eq_false_iff] at h1
  have h4 : s.v.l.length ≤ 40 := by have := of_decide_eq_false h1.2; omega
  refine ⟨by have := h.1.len; omega, fun x hx => ?_, by omega, by omega⟩
  have h5 := h1.1
  rw [List.take_of_length_le (by omega)] at h5
  have h6 : E.great x.v.s.apps = false := by simpa using List.any_eq_false.1 h5 x hx
  have h7 := of_decide_eq_false h6
  have h8 := (h.1.2 x hx).len
  omega
theorem flat_len {α β : Type} (f : α → List β) (k : Nat) : ∀ l : List α, (∀ x ∈ l, (f x).length ≤ k) → (l.flatMap f).length ≤ l.length * k
  | [], _ => by simp
  | x :: r, h => by
    have h1 := h x (by simp)
    have h2 := flat_len f k r fun y hy => h y (by simp [hy])
    rw [List.flatMap_cons, List.length_append, List.length_cons, Nat.add_mul]
    omega
theorem otell_few {w : World} {s : Sn} (h : SnRd w s) (ha : SnArg s) (nm : List UInt8) (ty : Int) : (Zo.tell s.sc nm ty).length ≤ 4000000 := by
  rw [Zo.tell_len]
  by_cases h33 : ty = 33
  · subst h33
    rw [Zo.datas33]
    have h1 := flat_len (Zo.srvs s.sc nm) 4000 (Zo.counts s.sc) fun y _ => by
      have h2 : (Zo.offered s.sc y nm).length ≤ 4000 := by
        have h3 := offered_few s.sc y nm
        have h4 := vget_short h.1 ha.ok.fit.2.1 (k := y) _ rfl
        rw [apps_of rfl] at h4
        exact Nat.le_trans h3 h4
      unfold Zo.srvs
      split
      · rw [List.length_map]; exact h2
      · simp
    have h5 := Zo.counts_len s.sc
    have h6 := h.1.viewlen
    have h7 := ha.ok.fit.1
    have h8 : s.sc.view.length = s.v.view.length := rfl
    have h9 : (Zo.counts s.sc).length * 4000 ≤ 1000 * 4000 := Nat.mul_le_mul_right _ (by omega)
    omega
  · unfold Zo.datas
    split
    · unfold Zo.addrs; split <;> simp
    · split
      · split <;> simp
      · split
        · split <;> simp
        · simp
def rcBO (x y : Rrc) : Bool := decide (x = y)
theorem rcBO_self (x : Rrc) : rcBO x x = true := decide_eq_true rfl
theorem eq_rrcO (x y : Rrc) (w : World) : (Op.equalIn 10000 32 (.agg #[.string (strB x.name), .int .i64 x.typ, .int .i64 x.cls, .int .i64 x.ttl, .string (strB x.data)]) (.agg #[.string (strB y.name), .int .i64 y.typ, .int .i64 y.cls, .int .i64 y.ttl, .string (strB y.data)])).run Tryz.prog w = .ok (rcBO x y) w := by
  have h0 := Tryz.underlying32
  simp [go_sem, run_equalIn_agg]
  obtain ⟨a, b, c, d, e⟩ := x
  obtain ⟨a', b', c', d', e'⟩ := y
  unfold rcBO
  by_cases e1 : a = a'
  · by_cases e2 : b = b'
    · by_cases e3 : c = c'
      · by_cases e4 : d = d'
        · by_cases e5 : e = e'
          · simp [e1, e2, e3, e4, e5]
          · simp [e1, e2, e3, e4, e5]
        · simp [e1, e2, e3, e4]
      · simp [e1, e2, e3]
    · simp [e1, e2]
  · simp [e1]
theorem guard_rrcO : Tryz.prog.eqGuardType Tryz.prog.depth 32 = false := by kernel_rfl
end Go.Proofs.YtmbfldcmiabccaaGreatDoor

namespace Go.Proofs.YtmbfldcmiabccaaGreatDoor
set_option linter.unusedVariables false
namespace Zo
def kv : List UInt8 := [4, 104, 116, 116, 112, 3, 116, 99, 112, 80, 0, 7, 1]
def ksvc : Svc := ⟨[104, 116, 116, 112], [116, 99, 112], 80, 0, 7, true⟩
def kapps : List Ent := [⟨0, 1, [117, 112]⟩, ⟨1, 2, [97, 98, 99, 100]⟩, ⟨3, 3, kv⟩]
def kdom : List UInt8 := [4, 98, 101, 108, 108, 0]
def kview : List Nm := [⟨2, ⟨1, 0, kapps⟩⟩]
def ksc : Scn := ⟨kview, [2], kdom⟩
def kn1 : List UInt8 := [5, 95, 104, 116, 116, 112, 4, 95, 84, 67, 80, 4, 98, 101, 108, 108, 0]
def kn2 : List UInt8 := [2, 110, 50, 4, 98, 101, 108, 108, 0]
def kn3 : List UInt8 := [2, 110, 49, 4, 98, 101, 108, 108, 0]
def kd1 : List UInt8 := [0, 0, 0, 7, 0, 80, 2, 110, 50, 4, 98, 101, 108, 108, 0]
theorem kal0 : Y.enc ksvc = (kv, 0) := by decide +kernel
theorem kal1 : tell ksc kn1 33 = [⟨kn1, 33, 1, 5, kd1⟩] := by decide +kernel
theorem kal2 : tell ksc kn2 1 = [⟨kn2, 1, 1, 5, [97, 98, 99, 100]⟩] := by decide +kernel
theorem kal3 : is ksc kn3 = false := by decide +kernel
theorem kal4 : counts ksc = [2] := by decide +kernel
theorem kent {k v : Int} {l : List UInt8} (h1 : 0 ≤ k) (h2 : k < 12) (h3 : 1 ≤ v) (h4 : v ≤ 1099511627776) (h5 : l.length ≤ 200) : E.may ⟨k, v, l⟩ := ⟨h1, h2, h3, h4, h5⟩
theorem kright : V.right kview := by
  refine ⟨fun x hx => ?_, by simp [kview, V.rising]⟩
  obtain rfl : x = ⟨2, ⟨1, 0, kapps⟩⟩ := by simpa [kview] using hx
  refine ⟨by decide, by decide, by decide, by decide, by decide, by decide, fun y hy => ?_, by simp [kapps, E.rising]⟩
  have h : y = ⟨0, 1, [117, 112]⟩ ∨ y = ⟨1, 2, [97, 98, 99, 100]⟩ ∨ y = ⟨3, 3, kv⟩ := by simpa [kapps] using hy
  rcases h with rfl | rfl | rfl <;> exact kent (by decide) (by decide) (by decide) (by decide) (by decide)
end Zo
end Go.Proofs.YtmbfldcmiabccaaGreatDoor

namespace Go.Proofs.YtmbfldcmiabccaaGreatDoor
set_option linter.unusedVariables false
set_option linter.unusedSimpArgs false
open Go.RowKit
def rrB (x y : Rrc) : Bool := decide (x = y)
theorem eq_rrc (x y : Rrc) (w : World) : (Op.equalIn 10000 32 (.agg #[.string (strB x.name), .int .i64 x.typ, .int .i64 x.cls, .int .i64 x.ttl, .string (strB x.data)]) (.agg #[.string (strB y.name), .int .i64 y.typ, .int .i64 y.cls, .int .i64 y.ttl, .string (strB y.data)])).run Tryz.prog w = .ok (rrB x y) w := by
  have h0 := Tryz.underlying32
  simp [go_sem, run_equalIn_agg]
  obtain ⟨a, b, c, d, e⟩ := x
  obtain ⟨a', b', c', d', e'⟩ := y
  unfold rrB
  by_cases e1 : a = a'
  · by_cases e2 : b = b'
    · by_cases e3 : c = c'
      · by_cases e4 : d = d'
        · by_cases e5 : e = e'
          · simp [e1, e2, e3, e4, e5]
          · simp [e1, e2, e3, e4, e5]
        · simp [e1, e2, e3, e4]
      · simp [e1, e2, e3]
    · simp [e1, e2]
  · simp [e1]
theorem guard_rrc : Tryz.prog.eqGuardType Tryz.prog.depth 32 = false := by kernel_rfl
set_option maxHeartbeats 2000000 in
set_option maxRecDepth 20000 in
theorem rsamers_any (l l' : List Rrc) (A A' : Option Addr) (n n' c c' : Nat) (w : World) (h : Rd w w.heap.size 5 A n (RC l)) (h' : Rd w w.heap.size 5 A' n' (RC l')) (hn : n ≤ 70368744177664) (hn' : n' ≤ 70368744177664) :
    Calls Tryz.prog 16 #[.slice A n c, .slice A' n' c'] w (BoB (decide (l = l')) w) := by
  have hl := h.lenR
  have hl' := h'.lenR
  have HL := Lib.hid hl
  have HL' := Lib.hid hl'
  have hgd := guard_rrc
  clear hl hl'
  by_cases hnn : n = n'
  · subst hnn
    go_enter Tryz.func16, Tryz.ntmps16
    go_wp2
    go_loopw [5] (fun i wr => ∃ k q : Nat, k ≤ n ∧ i = .int .i64 k ∧ l.take k = l'.take k ∧ wr = w.drewN q) (fun i _ => n - (intOf i).toNat)
    case atStart => exact ⟨0, 0, by omega, rfl, rfl, rfl⟩
    case round =>
      obtain ⟨k, q, hk, rfl, hno, rfl⟩ := hrel
      have HN := Lib.hid hno
      clear hno
      by_cases hlt : k < n
      · obtain ⟨bb, oo, x, e1, hb, hx, c0, c1, c2, c3, c4⟩ := h.atR hlt
        obtain ⟨bb', oo', y, e2, hb', hy, d0, d1, d2, d3, d4⟩ := h'.atR hlt
        subst e1 e2
        have HX := Lib.hid hx
        have HY := Lib.hid hy
        clear hx hy
        have hk0 : (0 : Int) ≤ (k : Int) := by omega
        have eq := eq_rrc x y
        by_cases hxy : x = y
        · have e3 : rrB x y = true := decide_eq_true hxy
          rw [e3] at eq
          have HXY := Lib.hid hxy
          clear hxy
          go_wp2
          go_quiet (fail)
          go_wp2
          go_roundw
          case rel => exact ⟨k + 1, q + nq, by omega, by go_num, by rw [take_more HX.out, take_more HY.out, HN.out, HXY.out], by simp⟩
          case measure => simp [intOf]; omega
        · have e3 : rrB x y = false := decide_eq_false hxy
          rw [e3] at eq
          have hne : l ≠ l' := fun e => by
            have h1 := HX.out
            rw [e, HY.out] at h1
            injection h1 with h1
            exact hxy h1.symm
          have HNE := Lib.hid hne
          clear hne hxy
          go_wp2
          go_quiet (fail)
          go_wp2
          go_ret
          exact ⟨ret_bool (decide_eq_false HNE.out).symm, kdrewB (kdrewB (Below.refl _ _) _) _⟩
      · have he : l = l' := by
          have h1 := HN.out
          rwa [List.take_of_length_le (by have := HL.out; omega), List.take_of_length_le (by have := HL'.out; omega)] at h1
        have HE := Lib.hid he
        clear he
        go_wp2
        go_ret
        exact ⟨ret_bool (decide_eq_true HE.out).symm, kdrewB (Below.refl _ _) _⟩
  · have t1 : ((n : Int) != (n' : Int)) = true := by rw [bne_iff_ne]; omega
    have hne : l ≠ l' := fun e => by
      have h1 := HL.out
      rw [e, HL'.out] at h1
      exact hnn h1.symm
    have HNE := Lib.hid hne
    clear hne hnn
    go_enter Tryz.func16, Tryz.ntmps16
    go_wp2
    go_ret
    exact ⟨ret_bool (decide_eq_false HNE.out).symm, Below.refl _ _⟩
end Go.Proofs.YtmbfldcmiabccaaGreatDoor

namespace Go.Proofs.YtmbfldcmiabccaaGreatDoor
set_option linter.unusedVariables false
set_option linter.unusedSimpArgs false
open Go.RowKit
theorem rsamers_at {l l' : List Rrc} {z : Bool} (e : decide (l = l') = z) (A A' : Option Addr) (n n' c c' : Nat) (w : World) (h : Rd w w.heap.size 5 A n (RC l)) (h' : Rd w w.heap.size 5 A' n' (RC l')) (hn : n ≤ 70368744177664) (hn' : n' ≤ 70368744177664) :
    Calls Tryz.prog 16 #[.slice A n c, .slice A' n' c'] w (BoB z w) := by have h1 := rsamers_any l l' A A' n n' c c' w h h' hn hn'; rw [e] at h1; exact h1
end Go.Proofs.YtmbfldcmiabccaaGreatDoor

