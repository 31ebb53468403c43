/- OLaw1 (merged). -/
import Derived.Deep.QuietTactic
import Derived.Deep.RegionHeld3
import Derived.Deep.DeepCutAuto
import Derived.Test.YtmbfldcmiabccaaGreatDoorJF21
import Derived.Test.YtmbfldcmiabccaaGreatDoorJORows
namespace Go.Proofs.YtmbfldcmiabccaaGreatDoor
set_option linter.unusedVariables false
set_option linter.unusedSimpArgs false
open Go.RowKit
set_option maxHeartbeats 16000000 in
set_option maxRecDepth 40000 in
theorem law_ZoneTells (s : Sn) (a1 : ByteArray) (a2 : Int) (W : World) (w0 : SnIn W s) (w1 : a1.size ≤ maxLen) (w2 : (Lit.int .i64 a2).wf = true) :
    Calls Tryz.prog 3 #[snval s, .string a1, .int .i64 a2] W fun e w' => e = .returned (.bool true) ∧ Below W.heap.size W w' := by
  obtain ⟨nm, rfl⟩ : ∃ nm, strB nm = a1 := ⟨a1.data.toList, rfl⟩
  obtain ⟨nl, hnl⟩ : ∃ k, nm.length = k := ⟨_, rfl⟩
  have hnz : (strB nm).size = nl := by rw [strB_size, hnl]
  have HNL := Lib.hid hnl
  clear hnl
  have SR : SnRd W s := ⟨w0.view.1, w0.al⟩
  have LK : Hid (s.v.n * 48 ≤ 140737488351232 ∧ (∀ x ∈ s.v.l, x.v.n * 32 ≤ 140737488351232 ∧ ∀ y ∈ x.v.s.apps, y.val.length ≤ 140737488351232)) := Lib.hid ⟨w0.view.2.2.1, fun x hx => (w0.view.2.2.2 x hx).1⟩
  have HC := Lib.hid (And.intro w0.cap1 w0.cap2)
  have X := Box.new W (sncs s) 25
  have b := (Below.refl W.heap.size W).alloc (Nat.le_refl _) (.cells (sncs s) 25)
  replace SR := SR.alloc (.cells (sncs s) 25)
  clear w0
  simp only [snval, sncs] at X SR b ⊢
  have x0 := X.at 0 rfl
  have x1 := X.at 1 rfl
  have x2 := X.at 2 rfl
  go_enter Tryz.func3, Tryz.ntmps3
  go_wp2_with fail
  generalize W.alloc (.cells #[.slice s.v.A s.v.n s.v.c, .slice s.B s.m s.d, .string (strB s.dom)] 25) = wa at *
  refine (oalive_any wa).mono ?_
  rintro e v1 ⟨rfl, hb⟩
  replace X := X.belowH hb
  replace SR := SR.belowH hb
  replace b := b.trans (hb.mono b.size)
  clear hb
  clear x0 x1 x2
  have x0 := X.at 0 rfl
  have x1 := X.at 1 rfl
  have x2 := X.at 2 rfl
  go_wp2_with fail
  refine (rogreat_any s v1 ⟨SR, LK.out.1, LK.out.2⟩).mono ?_
  rintro e v2 ⟨rfl, hb⟩
  replace X := X.belowH hb
  replace SR := SR.belowH hb
  replace b := b.trans (hb.mono b.size)
  clear hb
  clear x0 x1 x2
  have x0 := X.at 0 rfl
  have x1 := X.at 1 rfl
  have x2 := X.at 2 rfl
  rcases hg : SnGreat s
  rotate_left
  · skip
    go_wp2
    go_ret
    exact ⟨rfl, b⟩
  obtain ⟨g1, g2, g3, g4⟩ := ogreat_small SR hg
  clear hg
  by_cases h5 : 500 < nl
  · have f5 : decide ((500 : Int) < (nl : Int)) = true := decide_eq_true (by omega)
    have f5' : decide (500 < nl) = true := decide_eq_true h5
    go_wp2
    go_ret
    exact ⟨rfl, b⟩
  have f5 : decide ((500 : Int) < (nl : Int)) = false := decide_eq_false (by omega)
  have f5' : decide (500 < nl) = false := decide_eq_false h5
  have HN : Hid (nm.length ≤ 500) := Lib.hid (by have := HNL.out; omega)
  clear h5
  go_wp2_with fail
  refine (rvright_any s.v v2 SR.1 (by omega) g2).mono ?_
  rintro e v3 ⟨rfl, hb⟩
  replace X := X.belowH hb
  replace SR := SR.belowH hb
  replace b := b.trans (hb.mono b.size)
  clear hb
  clear x0 x1 x2
  have x0 := X.at 0 rfl
  have x1 := X.at 1 rfl
  have x2 := X.at 2 rfl
  rcases hr : vrightB s.v.view
  · skip
    go_wp2
    go_ret
    exact ⟨rfl, b⟩
  have HA : Hid (SnArg s) := Lib.hid ⟨⟨⟨by omega, g2, by omega⟩, fun x hx y hy => by
    obtain ⟨z, hz, rfl⟩ := List.mem_map.1 hx
    exact (LK.out.2 z hz).2 y hy, by omega⟩, vrightB_out hr, HC.out.1, HC.out.2⟩
  have HD := Lib.hid g4
  have HN1 := Lib.hid g1
  obtain ⟨P, Z, hP⟩ : ∃ P, ZCon s P ∧ P v3 := ⟨_, zcon_of HA.out, SR⟩
  clear hr g1 g2 g3 g4 SR LK HC
  clear f5 f5'
  have HTY : TyOk a2 := w2
  clear w1 w2
  obtain ⟨⟨th, oh⟩, eth⟩ : ∃ z, Zo.hostN s.dom a2 = z := ⟨_, rfl⟩
  obtain ⟨⟨rs, os⟩, ers⟩ : ∃ z, Zo.startOf s.dom = z := ⟨_, rfl⟩
  have C1 := fun W (h : P W) => Z.host a2 h
  have C2 := fun W (h : P W) => Z.rhost a2 h
  have C3 := fun W (h : P W) => Z.start h
  have C4 := fun W (h : P W) => Z.rstart h
  simp only [eth] at C1 C2
  simp only [ers] at C3 C4
  have HC1 := Lib.hid C1
  have HC2 := Lib.hid C2
  have HC3 := Lib.hid C3
  have HC4 := Lib.hid C4
  clear C1 C2 C3 C4 eth ers
  go_wp2_with fail
  refine (HC1.out v3 hP).mono ?_
  rintro e w4 ⟨rfl, hb⟩
  replace X := X.belowH hb
  replace hP := Z.sb hP hb
  replace b := b.trans (hb.mono b.size)
  clear hb
  clear x0 x1 x2
  have x0 := X.at 0 rfl
  have x1 := X.at 1 rfl
  have x2 := X.at 2 rfl
  go_wp2_with fail
  refine (HC2.out w4 hP).mono ?_
  rintro e w5 ⟨rfl, hb⟩
  replace X := X.belowH hb
  replace hP := Z.sb hP hb
  replace b := b.trans (hb.mono b.size)
  clear hb
  clear x0 x1 x2
  have x0 := X.at 0 rfl
  have x1 := X.at 1 rfl
  have x2 := X.at 2 rfl
  go_wp2_with fail
  refine (HC3.out w5 hP).mono ?_
  rintro e w6 ⟨rfl, hb⟩
  replace X := X.belowH hb
  replace hP := Z.sb hP hb
  replace b := b.trans (hb.mono b.size)
  clear hb
  clear x0 x1 x2
  have x0 := X.at 0 rfl
  have x1 := X.at 1 rfl
  have x2 := X.at 2 rfl
  simp only [rrv]
  go_upto_region 8 with fail
  have Y := Box.new w6 #[.string (strB rs.name), .int .i64 rs.typ, .int .i64 rs.cls, .int .i64 rs.ttl, .string (strB rs.data)] 32
  replace X := X.alloc (.cells #[.string (strB rs.name), .int .i64 rs.typ, .int .i64 rs.cls, .int .i64 rs.ttl, .string (strB rs.data)] 32)
  replace hP := Z.sb hP ((Below.refl _ _).alloc (Nat.le_refl _) (.cells #[.string (strB rs.name), .int .i64 rs.typ, .int .i64 rs.cls, .int .i64 rs.ttl, .string (strB rs.data)] 32))
  replace b := b.alloc b.size (.cells #[.string (strB rs.name), .int .i64 rs.typ, .int .i64 rs.cls, .int .i64 rs.ttl, .string (strB rs.data)] 32)
  generalize w6.alloc (.cells #[.string (strB rs.name), .int .i64 rs.typ, .int .i64 rs.cls, .int .i64 rs.ttl, .string (strB rs.data)] 32) = w7 at *
  generalize w6.heap.size = yb at *
  clear x0 x1 x2
  have x0 := X.at 0 rfl
  have x1 := X.at 1 rfl
  have x2 := X.at 2 rfl
  have y0 := Y.at 0 rfl
  have y1 := Y.at 1 rfl
  have y2 := Y.at 2 rfl
  have y3 := Y.at 3 rfl
  have y4 := Y.at 4 rfl
  go_wp2_with fail
  refine (HC4.out w7 hP).mono ?_
  rintro e w8 ⟨rfl, hb⟩
  replace X := X.belowH hb
  replace Y := Y.belowH hb
  replace hP := Z.sb hP hb
  replace b := b.trans (hb.mono b.size)
  clear hb
  clear x0 x1 x2
  clear y0 y1 y2 y3 y4
  have x0 := X.at 0 rfl
  have x1 := X.at 1 rfl
  have x2 := X.at 2 rfl
  have y0 := Y.at 0 rfl
  have y1 := Y.at 1 rfl
  have y2 := Y.at 2 rfl
  have y3 := Y.at 3 rfl
  have y4 := Y.at 4 rfl
  simp only [rrv]
  go_upto_region 9 with fail
  have V := Box.new w8 #[.string (strB rs.name), .int .i64 rs.typ, .int .i64 rs.cls, .int .i64 rs.ttl, .string (strB rs.data)] 32
  replace X := X.alloc (.cells #[.string (strB rs.name), .int .i64 rs.typ, .int .i64 rs.cls, .int .i64 rs.ttl, .string (strB rs.data)] 32)
  replace Y := Y.alloc (.cells #[.string (strB rs.name), .int .i64 rs.typ, .int .i64 rs.cls, .int .i64 rs.ttl, .string (strB rs.data)] 32)
  replace hP := Z.sb hP ((Below.refl _ _).alloc (Nat.le_refl _) (.cells #[.string (strB rs.name), .int .i64 rs.typ, .int .i64 rs.cls, .int .i64 rs.ttl, .string (strB rs.data)] 32))
  replace b := b.alloc b.size (.cells #[.string (strB rs.name), .int .i64 rs.typ, .int .i64 rs.cls, .int .i64 rs.ttl, .string (strB rs.data)] 32)
  generalize w8.alloc (.cells #[.string (strB rs.name), .int .i64 rs.typ, .int .i64 rs.cls, .int .i64 rs.ttl, .string (strB rs.data)] 32) = w9 at *
  generalize w8.heap.size = vb at *
  clear x0 x1 x2
  clear y0 y1 y2 y3 y4
  have x0 := X.at 0 rfl
  have x1 := X.at 1 rfl
  have x2 := X.at 2 rfl
  have y0 := Y.at 0 rfl
  have y1 := Y.at 1 rfl
  have y2 := Y.at 2 rfl
  have y3 := Y.at 3 rfl
  have y4 := Y.at 4 rfl
  have v0 := V.at 0 rfl
  have v1 := V.at 1 rfl
  have v2 := V.at 2 rfl
  have v3 := V.at 3 rfl
  have v4 := V.at 4 rfl
  have q1 : (strB th == strB th) = true := by rw [strB_beq]; exact decide_eq_true rfl
  have q1' : (th == th) = true := beq_self_eq_true _
  have q2 : (oh == oh) = true := beq_self_eq_true _
  have q3 : (os == os) = true := beq_self_eq_true _
  obtain ⟨iz, eiz⟩ : ∃ z, Zo.is s.sc nm = z := ⟨_, rfl⟩
  have q4 : (iz == iz) = true := beq_self_eq_true _
  have heq : ∀ w, (Op.equalIn 10000 32 (.agg #[.string (strB rs.name), .int .i64 rs.typ, .int .i64 rs.cls, .int .i64 rs.ttl, .string (strB rs.data)]) (.agg #[.string (strB rs.name), .int .i64 rs.typ, .int .i64 rs.cls, .int .i64 rs.ttl, .string (strB rs.data)])).run Tryz.prog w = .ok true w := fun w => by rw [eq_rrcO rs rs w, rcBO_self]
  have hgd := guard_rrcO
  have HN2 : Hid (nm.length ≤ 1000) := Lib.hid (by have := HN.out; omega)
  have C5 := fun W (h : P W) => Z.is h HN2.out
  have C6 := fun W (h : P W) => Z.ris h HN2.out
  simp only [eiz] at C5 C6
  have HC5 := Lib.hid C5
  have HC6 := Lib.hid C6
  have CL : Hid ((Zo.counts s.sc).length ≤ 1000) := Lib.hid (by have h1 := Zo.counts_len s.sc; have h2 := (Z.rd hP).1.viewlen; have h3 := HN1.out; have h4 : s.sc.view.length = s.v.view.length := rfl; omega)
  have TL : Hid ((Zo.tell s.sc nm a2).length ≤ 4000000) := Lib.hid (otell_few (Z.rd hP) HA.out nm a2)
  clear C5 C6 eiz
  replace X := X.drew
  replace Y := Y.drew
  replace V := V.drew
  replace hP := Z.sb hP ((Below.refl _ _).drew)
  replace b := b.drew
  clear x0 x1 x2
  clear y0 y1 y2 y3 y4
  clear v0 v1 v2 v3 v4
  have x0 := X.at 0 rfl
  have x1 := X.at 1 rfl
  have x2 := X.at 2 rfl
  have y0 := Y.at 0 rfl
  have y1 := Y.at 1 rfl
  have y2 := Y.at 2 rfl
  have y3 := Y.at 3 rfl
  have y4 := Y.at 4 rfl
  have v0 := V.at 0 rfl
  have v1 := V.at 1 rfl
  have v2 := V.at 2 rfl
  have v3 := V.at 3 rfl
  have v4 := V.at 4 rfl
  refine wp_region_held_drew (S := (fun w' => (w'.cell? ⟨W.heap.size, 0, none⟩ = some (.slice s.v.A s.v.n s.v.c) ∧ w'.cell? ⟨W.heap.size, 1, none⟩ = some (.slice s.B s.m s.d) ∧ w'.cell? ⟨W.heap.size, 2, none⟩ = some (.string (strB s.dom))) ∧ (w'.cell? ⟨yb, 0, none⟩ = some (.string (strB rs.name)) ∧ w'.cell? ⟨yb, 1, none⟩ = some (.int .i64 rs.typ) ∧ w'.cell? ⟨yb, 2, none⟩ = some (.int .i64 rs.cls) ∧ w'.cell? ⟨yb, 3, none⟩ = some (.int .i64 rs.ttl) ∧ w'.cell? ⟨yb, 4, none⟩ = some (.string (strB rs.data))) ∧ (w'.cell? ⟨vb, 0, none⟩ = some (.string (strB rs.name)) ∧ w'.cell? ⟨vb, 1, none⟩ = some (.int .i64 rs.typ) ∧ w'.cell? ⟨vb, 2, none⟩ = some (.int .i64 rs.cls) ∧ w'.cell? ⟨vb, 3, none⟩ = some (.int .i64 rs.ttl) ∧ w'.cell? ⟨vb, 4, none⟩ = some (.string (strB rs.data))))) (by kernel_rfl) (by exact ⟨⟨x0, x1, x2⟩, ⟨y0, y1, y2, y3, y4⟩, v0, v1, v2, v3, v4⟩) (fun hHeld0 => ?_)
  refine tk 0 52 rfl hHeld0 ?_
  refine tk 2 54 rfl hHeld0 ?_
  refine wpAnyH_ready (rs := [1]) (by kernel_rfl) (by simp) (AllReadyH.cons (o := ⟨some 53, _, _, _, _, _⟩) rfl (fun K hK => ?_) AllReadyH.nil)
  go_simp
  (refine (Z.counts hP).mono ?_; rintro e wc1 ⟨A1, n1, c1, rfl, hl1, R1, _, hb⟩; replace X := X.belowH hb; replace Y := Y.belowH hb; replace V := V.belowH hb; replace hP := Z.sb hP hb; replace b := b.trans (hb.mono b.size); clear hb; clear x0 x1 x2 y0 y1 y2 y3 y4 v0 v1 v2 v3 v4; have x0 := X.at 0 rfl; have x1 := X.at 1 rfl; have x2 := X.at 2 rfl; have y0 := Y.at 0 rfl; have y1 := Y.at 1 rfl; have y2 := Y.at 2 rfl; have y3 := Y.at 3 rfl; have y4 := Y.at 4 rfl; have v0 := V.at 0 rfl; have v1 := V.at 1 rfl; have v2 := V.at 2 rfl; have v3 := V.at 3 rfl; have v4 := V.at 4 rfl)
  go_simp
  refine hK.out _ _ (by exact ⟨⟨x0, x1, x2⟩, ⟨y0, y1, y2, y3, y4⟩, v0, v1, v2, v3, v4⟩) (fun hHeld1 => ?_)
  clear hK hHeld0 K
  try simp only [Act.put, sA, sB, sC]
  refine wpAnyH_ready (rs := [3]) (by kernel_rfl) (by simp) (AllReadyH.cons (o := ⟨some 55, _, _, _, _, _⟩) rfl (fun K hK => ?_) AllReadyH.nil)
  go_simp
  (refine (Z.rcounts hP).mono ?_; rintro e wc2 ⟨A2, n2, c2, rfl, hl2, R2, _, hb⟩; replace X := X.belowH hb; replace Y := Y.belowH hb; replace V := V.belowH hb; replace hP := Z.sb hP hb; replace R1 := R1.belowH hb; replace b := b.trans (hb.mono b.size); clear hb; clear x0 x1 x2 y0 y1 y2 y3 y4 v0 v1 v2 v3 v4; have x0 := X.at 0 rfl; have x1 := X.at 1 rfl; have x2 := X.at 2 rfl; have y0 := Y.at 0 rfl; have y1 := Y.at 1 rfl; have y2 := Y.at 2 rfl; have y3 := Y.at 3 rfl; have y4 := Y.at 4 rfl; have v0 := V.at 0 rfl; have v1 := V.at 1 rfl; have v2 := V.at 2 rfl; have v3 := V.at 3 rfl; have v4 := V.at 4 rfl)
  go_simp
  refine hK.out _ _ (by exact ⟨⟨x0, x1, x2⟩, ⟨y0, y1, y2, y3, y4⟩, v0, v1, v2, v3, v4⟩) (fun hHeld2 => ?_)
  clear hK hHeld1 K
  try simp only [Act.put, sA, sB, sC]
  refine wpAnyH_ready (rs := [4]) (by kernel_rfl) (by simp) (AllReadyH.cons (o := ⟨some 56, _, _, _, _, _⟩) rfl (fun K hK => ?_) AllReadyH.nil)
  go_simp
  (refine (oints_any (decide_eq_true rfl) R1 R2 (by have := CL.out; omega)).mono ?_; rintro e wc3 ⟨rfl, hb⟩; replace X := X.belowH hb; replace Y := Y.belowH hb; replace V := V.belowH hb; replace hP := Z.sb hP hb; replace R1 := R1.belowH hb; replace R2 := R2.belowH hb; replace b := b.trans (hb.mono b.size); clear hb; clear x0 x1 x2 y0 y1 y2 y3 y4 v0 v1 v2 v3 v4; have x0 := X.at 0 rfl; have x1 := X.at 1 rfl; have x2 := X.at 2 rfl; have y0 := Y.at 0 rfl; have y1 := Y.at 1 rfl; have y2 := Y.at 2 rfl; have y3 := Y.at 3 rfl; have y4 := Y.at 4 rfl; have v0 := V.at 0 rfl; have v1 := V.at 1 rfl; have v2 := V.at 2 rfl; have v3 := V.at 3 rfl; have v4 := V.at 4 rfl; clear R1 R2)
  go_simp
  refine hK.out _ _ (by exact ⟨⟨x0, x1, x2⟩, ⟨y0, y1, y2, y3, y4⟩, v0, v1, v2, v3, v4⟩) (fun hHeld3 => ?_)
  clear hK hHeld2 K
  try simp only [Act.put, sA, sB, sC]
  refine tk 5 57 rfl hHeld3 ?_
  refine tk 6 58 rfl hHeld3 ?_
  refine tk 7 59 rfl hHeld3 ?_
  refine tk 8 60 rfl hHeld3 ?_
  refine tk 9 61 rfl hHeld3 ?_
  refine tk 10 62 rfl hHeld3 ?_
  refine tk 11 63 rfl hHeld3 ?_
  refine tk 12 64 rfl hHeld3 ?_
  refine tk 13 65 rfl hHeld3 ?_
  refine tk 14 66 rfl hHeld3 ?_
  refine tk 15 67 rfl hHeld3 ?_
  refine tk 16 68 rfl hHeld3 ?_
  refine tk 17 69 rfl hHeld3 ?_
  refine tk 18 70 rfl hHeld3 ?_
  refine tk 19 71 rfl hHeld3 ?_
  refine tk 20 72 rfl hHeld3 ?_
  refine tk 21 73 rfl hHeld3 ?_
  refine tk 22 74 rfl hHeld3 ?_
  refine tk 23 75 rfl hHeld3 ?_
  refine tk 24 76 rfl hHeld3 ?_
  refine tk 25 77 rfl hHeld3 ?_
  refine tk 26 78 rfl hHeld3 ?_
  refine tk 27 79 rfl hHeld3 ?_
  refine tk 29 81 rfl hHeld3 ?_
  refine tk 30 82 rfl hHeld3 ?_
  refine wpAnyH_ready (rs := [28]) (by kernel_rfl) (by simp) (AllReadyH.cons (o := ⟨some 80, _, _, _, _, _⟩) rfl (fun K hK => ?_) AllReadyH.nil)
  go_simp
  (refine (HC5.out _ hP).mono ?_; rintro e wc4 ⟨rfl, hb⟩; replace X := X.belowH hb; replace Y := Y.belowH hb; replace V := V.belowH hb; replace hP := Z.sb hP hb; replace b := b.trans (hb.mono b.size); clear hb; clear x0 x1 x2 y0 y1 y2 y3 y4 v0 v1 v2 v3 v4; have x0 := X.at 0 rfl; have x1 := X.at 1 rfl; have x2 := X.at 2 rfl; have y0 := Y.at 0 rfl; have y1 := Y.at 1 rfl; have y2 := Y.at 2 rfl; have y3 := Y.at 3 rfl; have y4 := Y.at 4 rfl; have v0 := V.at 0 rfl; have v1 := V.at 1 rfl; have v2 := V.at 2 rfl; have v3 := V.at 3 rfl; have v4 := V.at 4 rfl)
  go_simp
  refine hK.out _ _ (by exact ⟨⟨x0, x1, x2⟩, ⟨y0, y1, y2, y3, y4⟩, v0, v1, v2, v3, v4⟩) (fun hHeld4 => ?_)
  clear hK hHeld3 K
  try simp only [Act.put, sA, sB, sC]
  refine wpAnyH_ready (rs := [31]) (by kernel_rfl) (by simp) (AllReadyH.cons (o := ⟨some 83, _, _, _, _, _⟩) rfl (fun K hK => ?_) AllReadyH.nil)
  go_simp
  (refine (HC6.out _ hP).mono ?_; rintro e wc5 ⟨rfl, hb⟩; replace X := X.belowH hb; replace Y := Y.belowH hb; replace V := V.belowH hb; replace hP := Z.sb hP hb; replace b := b.trans (hb.mono b.size); clear hb; clear x0 x1 x2 y0 y1 y2 y3 y4 v0 v1 v2 v3 v4; have x0 := X.at 0 rfl; have x1 := X.at 1 rfl; have x2 := X.at 2 rfl; have y0 := Y.at 0 rfl; have y1 := Y.at 1 rfl; have y2 := Y.at 2 rfl; have y3 := Y.at 3 rfl; have y4 := Y.at 4 rfl; have v0 := V.at 0 rfl; have v1 := V.at 1 rfl; have v2 := V.at 2 rfl; have v3 := V.at 3 rfl; have v4 := V.at 4 rfl)
  go_simp
  refine hK.out _ _ (by exact ⟨⟨x0, x1, x2⟩, ⟨y0, y1, y2, y3, y4⟩, v0, v1, v2, v3, v4⟩) (fun hHeld5 => ?_)
  clear hK hHeld4 K
  try simp only [Act.put, sA, sB, sC]
  refine tk 32 84 rfl hHeld5 ?_
  refine tk 33 85 rfl hHeld5 ?_
  refine tk 34 86 rfl hHeld5 ?_
  refine tk 35 87 rfl hHeld5 ?_
  refine tk 36 88 rfl hHeld5 ?_
  refine tk 37 89 rfl hHeld5 ?_
  refine tk 39 91 rfl hHeld5 ?_
  refine tk 40 92 rfl hHeld5 ?_
  refine tk 41 93 rfl hHeld5 ?_
  refine wpAnyH_ready (rs := [38]) (by kernel_rfl) (by simp) (AllReadyH.cons (o := ⟨some 90, _, _, _, _, _⟩) rfl (fun K hK => ?_) AllReadyH.nil)
  go_simp
  (refine (Z.tell a2 hP HN2.out).mono ?_; rintro e wc6 ⟨A3, n3, c3, rfl, hl3, R3, _, hb⟩; replace X := X.belowH hb; replace Y := Y.belowH hb; replace V := V.belowH hb; replace hP := Z.sb hP hb; replace b := b.trans (hb.mono b.size); clear hb; clear x0 x1 x2 y0 y1 y2 y3 y4 v0 v1 v2 v3 v4; have x0 := X.at 0 rfl; have x1 := X.at 1 rfl; have x2 := X.at 2 rfl; have y0 := Y.at 0 rfl; have y1 := Y.at 1 rfl; have y2 := Y.at 2 rfl; have y3 := Y.at 3 rfl; have y4 := Y.at 4 rfl; have v0 := V.at 0 rfl; have v1 := V.at 1 rfl; have v2 := V.at 2 rfl; have v3 := V.at 3 rfl; have v4 := V.at 4 rfl)
  go_simp
  refine hK.out _ _ (by exact ⟨⟨x0, x1, x2⟩, ⟨y0, y1, y2, y3, y4⟩, v0, v1, v2, v3, v4⟩) (fun hHeld6 => ?_)
  clear hK hHeld5 K
  try simp only [Act.put, sA, sB, sC]
  refine wpAnyH_ready (rs := [42]) (by kernel_rfl) (by simp) (AllReadyH.cons (o := ⟨some 94, _, _, _, _, _⟩) rfl (fun K hK => ?_) AllReadyH.nil)
  go_simp
  (refine (Z.rtell a2 hP HN2.out).mono ?_; rintro e wc7 ⟨A4, n4, c4, rfl, hl4, R4, _, hb⟩; replace X := X.belowH hb; replace Y := Y.belowH hb; replace V := V.belowH hb; replace hP := Z.sb hP hb; replace R3 := R3.belowH hb; replace b := b.trans (hb.mono b.size); clear hb; clear x0 x1 x2 y0 y1 y2 y3 y4 v0 v1 v2 v3 v4; have x0 := X.at 0 rfl; have x1 := X.at 1 rfl; have x2 := X.at 2 rfl; have y0 := Y.at 0 rfl; have y1 := Y.at 1 rfl; have y2 := Y.at 2 rfl; have y3 := Y.at 3 rfl; have y4 := Y.at 4 rfl; have v0 := V.at 0 rfl; have v1 := V.at 1 rfl; have v2 := V.at 2 rfl; have v3 := V.at 3 rfl; have v4 := V.at 4 rfl)
  go_simp
  refine hK.out _ _ (by exact ⟨⟨x0, x1, x2⟩, ⟨y0, y1, y2, y3, y4⟩, v0, v1, v2, v3, v4⟩) (fun hHeld7 => ?_)
  clear hK hHeld6 K
  try simp only [Act.put, sA, sB, sC]
  refine wpAnyH_ready (rs := [43]) (by kernel_rfl) (by simp) (AllReadyH.cons (o := ⟨some 95, _, _, _, _, _⟩) rfl (fun K hK => ?_) AllReadyH.nil)
  go_simp
  (refine (rsamers_at (decide_eq_true rfl) A3 A4 n3 n4 c3 c4 _ R3 R4 (by have := TL.out; omega) (by have := TL.out; omega)).mono ?_; rintro e wc8 ⟨rfl, hb⟩; replace X := X.belowH hb; replace Y := Y.belowH hb; replace V := V.belowH hb; replace hP := Z.sb hP hb; replace R3 := R3.belowH hb; replace R4 := R4.belowH hb; replace b := b.trans (hb.mono b.size); clear hb; clear x0 x1 x2 y0 y1 y2 y3 y4 v0 v1 v2 v3 v4; have x0 := X.at 0 rfl; have x1 := X.at 1 rfl; have x2 := X.at 2 rfl; have y0 := Y.at 0 rfl; have y1 := Y.at 1 rfl; have y2 := Y.at 2 rfl; have y3 := Y.at 3 rfl; have y4 := Y.at 4 rfl; have v0 := V.at 0 rfl; have v1 := V.at 1 rfl; have v2 := V.at 2 rfl; have v3 := V.at 3 rfl; have v4 := V.at 4 rfl)
  go_simp
  refine hK.out _ _ (by exact ⟨⟨x0, x1, x2⟩, ⟨y0, y1, y2, y3, y4⟩, v0, v1, v2, v3, v4⟩) (fun hHeld8 => ?_)
  clear hK hHeld7 K
  try simp only [Act.put, sA, sB, sC]
  refine tk 44 96 rfl hHeld8 ?_
  refine tk 45 6 rfl hHeld8 ?_
  refine wpAnyH_done (by kernel_rfl) ?_ _
  go_wp2
  go_ret
  exact ⟨rfl, b⟩
end Go.Proofs.YtmbfldcmiabccaaGreatDoor

