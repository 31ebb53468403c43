/- ORef5 ORef6 ORef7 ORef8 VRef3 VRef4 (merged). -/
import Derived.Deep.DeepCutAuto
import Derived.Test.YtmbfldcmiabccaaGreatDoorJF05
import Derived.Test.YtmbfldcmiabccaaGreatDoorJF10
namespace Go.Proofs.YtmbfldcmiabccaaGreatDoor
set_option linter.unusedVariables false
set_option linter.unusedSimpArgs false
open Go.RowKit
theorem all_right : ∀ (l : List Ent), ∀ x ∈ Y.all l, Y.right x
  | [], x, hx => by simp [Y.all] at hx
  | e :: l, x, hx => by
    have hx2 : x ∈ (if Y.tells e then (Y.dec e.val).1 :: Y.all l else Y.all l) := hx
    split at hx2
    · rename_i ht
      rcases List.mem_cons.1 hx2 with rfl | h
      · exact (Y.dec_once (by unfold Y.tells at ht; exact ht.2)).1
      · exact all_right l x h
    · exact all_right l x hx2
theorem two_short {a b : List UInt8} (ha : a.length ≤ 20) (hb : b.length ≤ 20) : ∀ x ∈ [95 :: a, 95 :: b], x.length ≤ 1000 := by
  intro x hx
  rcases List.mem_cons.1 hx with rfl | hx
  · simp; omega
  · rw [List.mem_singleton.1 hx]; simp; omega
theorem filter_no {α : Type} {p : α → Bool} {x : α} (h : p x = false) : [x].filter p = [] := by simp [h]
theorem filter_yes {α : Type} {p : α → Bool} {x : α} (h : p x = true) : [x].filter p = [x] := by simp [h]
theorem apps_of {v : List Nm} {n : Int} {o : Option St} (h : V.get v n = o) : (o.getD ⟨0, 0, []⟩).apps = Zo.apps v n := by unfold Zo.apps; rw [h]; cases o <;> rfl
theorem apps_in {v : List Nm} {n : Int} {P : Ent → Prop} (h : ∀ x ∈ v, ∀ y ∈ x.st.apps, P y) : ∀ y ∈ Zo.apps v n, P y := by
  unfold Zo.apps
  intro y hy
  cases hg : V.get v n with
  | none => rw [hg] at hy; simp at hy
  | some st => rw [hg] at hy; exact h _ (V.get_mem hg) y hy
set_option maxHeartbeats 4000000 in
set_option maxRecDepth 20000 in
theorem rooffered_any (s : Sn) (node : Int) (name : List UInt8) (w : World) (h : SnRd w s) (hf : SnFit s) (hv : ∀ x ∈ s.v.view, ∀ y ∈ x.st.apps, y.val.length ≤ 140737488351232) (hd : s.dom.length ≤ 1000) (hn : name.length ≤ 100000) :
    Calls Tryz.prog 39 #[snval s, .int .i64 node, .string (strB name)] w (OwnY (Zo.offered s.sc node name) w) := by
  have X := Box.new w (sncs s) 25
  have bw := (Below.refl w.heap.size w).alloc (Nat.le_refl _) (.cells (sncs s) 25)
  have hsz : (w.alloc (.cells (sncs s) 25)).heap.size = w.heap.size + 1 := by simp
  have C := rvget_any s.v node (w.alloc (.cells (sncs s) 25)) (h.alloc _).1 hf.1 hf.2.1
  obtain ⟨o, eo⟩ : ∃ z, V.get s.v.view node = z := ⟨_, rfl⟩
  have EA := Lib.hid (apps_of eo)
  have FEW := Lib.hid (vget_short h.1 hf.2.1 o eo)
  have VAL := Lib.hid (apps_in (n := node) hv)
  rw [eo] at C
  have EO : Hid (Zo.offered s.sc node name = (Y.all (Zo.apps s.v.view node)).filter (Zo.tells s.dom name)) := Lib.hid rfl
  obtain ⟨res, eres⟩ : ∃ z, Zo.offered s.sc node name = z := ⟨_, rfl⟩
  rw [eres] at EO
  have ER := Lib.hid eres
  clear eres eo hf h hv
  obtain ⟨⟨l, A, n, c⟩, al, B, m, d, dom⟩ := s
  simp only [snval, sncs, vval] at *
  go_enter Tryz.func39, Tryz.ntmps39
  go_upto_region 1 with fail
  have x0 := X.at 0 rfl
  generalize (w.alloc (.cells #[.slice A n c, .slice B m d, .string (strB dom)] 25)) = w0 at *
  have hlt0 : w.heap.size < w0.heap.size := by omega
  clear hsz
  go_wp2_with fail
  refine C.mono ?_
  clear C
  rintro e w1 ⟨sg, rfl, hsg, hrd, hb1⟩
  have hap : sg.s.apps = Zo.apps (Vw.view ⟨l, A, n, c⟩) node := by rw [hsg]; exact EA.out
  have hfew : sg.s.apps.length ≤ 4000 := by rw [hsg]; exact FEW.out
  obtain ⟨⟨gg, gb, ga⟩, Ag, ng, cg⟩ := sg
  simp only [sv]
  go_upto_region 3 with fail
  simp only at hap hfew
  rw [← hap] at VAL EO
  clear hap EA FEW hsg
  have hrd2 : SRd (w1.alloc (.cells #[.int .i64 gg, .int .i64 gb, .slice Ag ng cg] 51)) ⟨⟨gg, gb, ga⟩, Ag, ng, cg⟩ := hrd.alloc _
  have b1 : Below w.heap.size w w1 := bw.trans (hb1.mono (by omega))
  have b2 := b1.alloc b1.size (.cells #[.int .i64 gg, .int .i64 gb, .slice Ag ng cg] 51)
  have X1 := (X.below hb1 hlt0).alloc (.cells #[.int .i64 gg, .int .i64 gb, .slice Ag ng cg] 51)
  have G := Box.new w1 #[.int .i64 gg, .int .i64 gb, .slice Ag ng cg] 51
  have hs2 : w.heap.size < (w1.alloc (.cells #[.int .i64 gg, .int .i64 gb, .slice Ag ng cg] 51)).heap.size := by have h1 := hb1.size; simp; omega
  have g2 := G.at 2 rfl
  generalize (w1.alloc (.cells #[.int .i64 gg, .int .i64 gb, .slice Ag ng cg] 51)) = w2 at *
  have hga : ng ≤ 1000000 := by have h1 := hrd2.lenE; simp only at h1; omega
  have C := ryall_any ga Ag ng cg w2 hrd2 hga VAL.out
  have RT : Hid (∀ x ∈ Y.all ga, Y.right x) := Lib.hid (all_right ga)
  have hal : (Y.all ga).length ≤ 4000 := by
    have h1 : ∀ q : List Ent, (Y.all q).length ≤ q.length := fun q => by
      induction q with
      | nil => simp [Y.all]
      | cons a q ih =>
        show (if Y.tells a then (Y.dec a.val).1 :: Y.all q else Y.all q).length ≤ _
        split <;> simp <;> omega
    have := h1 ga
    omega
  obtain ⟨L, eL⟩ : ∃ z, Y.all ga = z := ⟨_, rfl⟩
  rw [eL] at C EO RT hal
  clear eL VAL hfew hga
  go_wp2_with fail
  refine C.mono ?_
  clear C
  rintro e w3 ⟨A3, n3, c3, rfl, hl3, own3, hb3⟩
  have R3 : Rd w3 w3.heap.size 6 A3 n3 (YC L) := Rd.of_own own3
  have HL3 := Lib.hid hl3
  have hn3 : n3 ≤ 4000 := by omega
  have X3 := X1.below hb3 hs2
  have b3 := b2.trans (hb3.mono b2.size)
  have hs3 : w.heap.size < w3.heap.size := by have := hb3.size; omega
  clear own3 hl3 hal G X X1 g2 hrd hrd2 x0
  go_wp2
  go_loopw [7, 11] (fun v i wr => ∃ (k j : Nat) (A4 : Option Addr) (c4 : Nat), k ≤ n3 ∧ j ≤ k ∧ v = .slice A4 j c4 ∧ i = .int .i64 (k : Int) ∧ Hid (((L.take k).filter (Zo.tells dom name)).length = j) ∧ wr.ownsRow w3.heap.size 46 6 (.slice A4 j c4) j (FC yc ((L.take k).filter (Zo.tells dom name))) ∧ Below w3.heap.size w3 wr) (fun _ i _ => n3 - (intOf i).toNat)
  case atStart => exact ⟨0, 0, none, 0, Nat.zero_le _, Nat.le_refl _, rfl, rfl, Lib.hid rfl, World.ownsRow_nil _ _ _ _, Below.refl _ _⟩
  case round =>
    obtain ⟨k, j, A4, c4, hk, hj, rfl, rfl, hjl, own, b⟩ := hrel
    have X4 := X3.below b hs3
    have x0 := X4.at 0 rfl
    have x1 := X4.at 1 rfl
    have x2 := X4.at 2 rfl
    have bs := b.size
    have hs4 : w.heap.size < wr.heap.size := by omega
    by_cases hlt : k < n3
    · obtain ⟨bq, oq, y, rfl, hbq, hy, y0, y1, y2, y3, y4, y5⟩ := (R3.belowH b).atY hlt
      have hk0 : (0 : Int) ≤ (k : Int) := by omega
      have hbr : bq < wr.heap.size := by omega
      have AT : Hid ((L.take (k + 1)).filter (Zo.tells dom name) = (L.take k).filter (Zo.tells dom name) ++ [y].filter (Zo.tells dom name)) := Lib.hid (by rw [take_more hy, List.filter_append])
      have RY := RT.out y (List.mem_of_getElem? hy)
      have hn1 : y.name.length ≤ 20 := RY.1.2.1
      have hn2 : y.proto.length ≤ 20 := RY.2.1.2.1
      obtain ⟨⟨t, ok⟩, et⟩ : ∃ z, Zo.ahead dom (Zo.srvL y) = z := ⟨_, rfl⟩
      have hts : t.length ≤ 255 := by have h1 := ahead_short dom (Zo.srvL y); rw [et] at h1; exact h1
      have TL : Hid (Zo.tells dom name y = (ok && y.well && Lab.same t name)) := Lib.hid (by unfold Zo.tells; rw [et])
      have C1 : Hid (∀ W Lx, Rd W W.heap.size 1 Lx 2 (Tt [95 :: y.name, 95 :: y.proto]) → Calls Tryz.prog 24 #[.agg #[.slice A n c, .slice B m d, .string (strB dom)], .slice Lx 2 2] W (TxB t ok W)) := Lib.hid fun W Lx hW => by
        have h1 := roahead_any (.slice A n c) (.slice B m d) rfl rfl dom [95 :: y.name, 95 :: y.proto] Lx 2 2 W hW (by omega) (two_short hn1 hn2) hd
        rw [show [95 :: y.name, 95 :: y.proto] = Zo.srvL y from rfl, et] at h1
        exact h1
      have A1 : ∀ w, (Op.stringOp .add ⟨#[95]⟩ (strB y.name)).run Tryz.prog w = .ok (.string (strB (95 :: y.name))) w := fun w => run_two (a := [95]) (b := y.name) (by simp; omega)
      have A2 : ∀ w, (Op.stringOp .add ⟨#[95]⟩ (strB y.proto)).run Tryz.prog w = .ok (.string (strB (95 :: y.proto))) w := fun w => run_two (a := [95]) (b := y.proto) (by simp; omega)
      have RL := Rd.lit wr #[.string (strB (95 :: y.name)), .string (strB (95 :: y.proto))] 9 1 2 rfl
      have RL2 : Rd (wr.alloc (.cells #[.string (strB (95 :: y.name)), .string (strB (95 :: y.proto))] 9)).drew (wr.alloc (.cells #[.string (strB (95 :: y.name)), .string (strB (95 :: y.proto))] 9)).heap.size 1 (some ⟨wr.heap.size, 0, none⟩) 2 (Tt [95 :: y.name, 95 :: y.proto]) := (RL.more (by simp)).drew
      have bl := ((Below.refl wr.heap.size wr).alloc (Nat.le_refl _) (.cells #[.string (strB (95 :: y.name)), .string (strB (95 :: y.proto))] 9)).drew
      have C2 := C1.out _ _ RL2
      clear hy et RY C1 RL RL2 hn1 hn2
      have Z2 := Lib.hid y2
      have Z3 := Lib.hid y3
      have Z4 := Lib.hid y4
      have Z5 := Lib.hid y5
      clear y2 y3 y4 y5
      have HC2 := Lib.hid C2
      have HBL := Lib.hid bl
      clear C2 bl
      go_wp2
      refine wp_region_held_drew (S := (fun w' => (w'.cell? ⟨w.heap.size, 0, none⟩ = some (.slice A n c) ∧ w'.cell? ⟨w.heap.size, 1, none⟩ = some (.slice B m d) ∧ w'.cell? ⟨w.heap.size, 2, none⟩ = some (.string (strB dom))) ∧ w'.cell? ⟨bq, oq + k * 6, none⟩ = some (.string (strB y.name)) ∧ w'.cell? ⟨bq, oq + k * 6 + 1, none⟩ = some (.string (strB y.proto)))) (by kernel_rfl) (by exact ⟨⟨x0, x1, x2⟩, y0, y1⟩) (fun hHeld0 => ?_)
      refine tk 0 31 rfl hHeld0 ?_
      refine tk 1 32 rfl hHeld0 ?_
      refine tk 2 33 rfl hHeld0 ?_
      refine tk 3 34 rfl hHeld0 ?_
      refine tk 4 35 rfl hHeld0 ?_
      refine tk 5 36 rfl hHeld0 ?_
      refine tk 6 37 rfl hHeld0 ?_
      refine tk 7 38 rfl hHeld0 ?_
      refine tk 8 39 rfl hHeld0 ?_
      refine tk 9 40 rfl hHeld0 ?_
      refine tk 10 41 rfl hHeld0 ?_
      refine tk 11 42 rfl hHeld0 ?_
      refine tk 12 43 rfl hHeld0 ?_
      refine wpAnyH_ready (rs := [13]) (by kernel_rfl) (by simp) (AllReadyH.cons (o := ⟨some 44, _, _, _, _, _⟩) rfl (fun K hK => ?_) AllReadyH.nil)
      go_simp
      (have X5 := X4.below HBL.out hs4; replace x0 := X5.at 0 rfl; replace x1 := X5.at 1 rfl; replace x2 := X5.at 2 rfl; replace y0 := (HBL.out.cell (p := ⟨bq, oq + k * 6, none⟩) hbr).trans y0; replace y1 := (HBL.out.cell (p := ⟨bq, oq + k * 6 + 1, none⟩) hbr).trans y1)
      go_simp
      refine hK.out _ _ (by exact ⟨⟨x0, x1, x2⟩, y0, y1⟩) (fun hHeld1 => ?_)
      clear hK hHeld0 K
      try simp only [Act.put, sA, sB, sC]
      refine wpAnyH_ready (rs := [14]) (by kernel_rfl) (by simp) (AllReadyH.cons (o := ⟨some 45, _, _, _, _, _⟩) rfl (fun K hK => ?_) AllReadyH.nil)
      go_simp
      (refine HC2.out.mono ?_; rintro e w4 ⟨rfl, hb4⟩; have b4 : Below wr.heap.size wr w4 := HBL.out.trans (hb4.mono HBL.out.size); have X5 := X4.below b4 hs4; replace x0 := X5.at 0 rfl; replace x1 := X5.at 1 rfl; replace x2 := X5.at 2 rfl; replace y0 := (hb4.cell (p := ⟨bq, oq + k * 6, none⟩) (Nat.lt_of_lt_of_le hbr HBL.out.size)).trans y0; replace y1 := (hb4.cell (p := ⟨bq, oq + k * 6 + 1, none⟩) (Nat.lt_of_lt_of_le hbr HBL.out.size)).trans y1)
      go_simp
      refine hK.out _ _ (by exact ⟨⟨x0, x1, x2⟩, y0, y1⟩) (fun hHeld2 => ?_)
      clear hK hHeld1 K
      try simp only [Act.put, sA, sB, sC]
      refine tk 15 30 rfl hHeld2 ?_
      refine tk 16 46 rfl hHeld2 ?_
      refine tk 17 47 rfl hHeld2 ?_
      refine tk 18 12 rfl hHeld2 ?_
      refine tk 19 13 rfl hHeld2 ?_
      refine wpAnyH_done (by kernel_rfl) ?_ _
      have y2 := (b4.cell (p := ⟨bq, oq + k * 6 + 2, none⟩) hbr).trans Z2.out
      have y3 := (b4.cell (p := ⟨bq, oq + k * 6 + 3, none⟩) hbr).trans Z3.out
      have y4 := (b4.cell (p := ⟨bq, oq + k * 6 + 4, none⟩) hbr).trans Z4.out
      have y5 := (b4.cell (p := ⟨bq, oq + k * 6 + 5, none⟩) hbr).trans Z5.out
      have own4 := own_belowY own b4
      have bb4 := b.trans (b4.mono b.size)
      have hbr4 : bq < w4.heap.size := Nat.lt_of_lt_of_le hbr b4.size
      clear x0 x1 x2 Z2 Z3 Z4 Z5 HC2 own
      cases ok
      · have HT : Hid ((L.take (k + 1)).filter (Zo.tells dom name) = (L.take k).filter (Zo.tells dom name)) := Lib.hid (by rw [AT.out, filter_no (by rw [TL.out]; rfl), List.append_nil])
        go_wp2
        go_roundw
        case rel => exact ⟨k + 1, j, A4, c4, by omega, by omega, rfl, by go_num, Lib.hid (by rw [HT.out]; exact hjl.out), by rw [HT.out]; exact own4, bb4⟩
        case measure => simp [intOf]; omega
      obtain ⟨wl, ewl⟩ : ∃ z, y.well = z := ⟨_, rfl⟩
      rw [ewl] at TL y5
      have EWL := Lib.hid ewl
      clear ewl
      cases wl
      · have HT : Hid ((L.take (k + 1)).filter (Zo.tells dom name) = (L.take k).filter (Zo.tells dom name)) := Lib.hid (by rw [AT.out, filter_no (by rw [TL.out]; rfl), List.append_nil])
        go_wp2
        go_roundw
        case rel => exact ⟨k + 1, j, A4, c4, by omega, by omega, rfl, by go_num, Lib.hid (by rw [HT.out]; exact hjl.out), by rw [HT.out]; exact own4, bb4⟩
        case measure => simp [intOf]; omega
      obtain ⟨sm, esm⟩ : ∃ z, Lab.same t name = z := ⟨_, rfl⟩
      rw [esm] at TL
      have C2 := rsamel_at esm (by omega) hn w4
      clear esm
      go_wp2_with fail
      refine C2.mono ?_
      clear C2
      rintro e w5 ⟨rfl, hb5⟩
      have own5 := own_belowY own4 hb5
      have bb5 := bb4.trans (hb5.mono bb4.size)
      cases sm
      · have HT : Hid ((L.take (k + 1)).filter (Zo.tells dom name) = (L.take k).filter (Zo.tells dom name)) := Lib.hid (by rw [AT.out, filter_no (by rw [TL.out]; rfl), List.append_nil])
        go_wp2
        go_roundw
        case rel => exact ⟨k + 1, j, A4, c4, by omega, by omega, rfl, by go_num, Lib.hid (by rw [HT.out]; exact hjl.out), by rw [HT.out]; exact own5, bb5⟩
        case measure => simp [intOf]; omega
      · have HT : Hid ((L.take (k + 1)).filter (Zo.tells dom name) = (L.take k).filter (Zo.tells dom name) ++ [y]) := Lib.hid (by rw [AT.out, filter_yes (by rw [TL.out]; rfl)])
        replace y0 := cell_of_belowY hb5 y0 hbr4
        replace y1 := cell_of_belowY hb5 y1 hbr4
        replace y2 := cell_of_belowY hb5 y2 hbr4
        replace y3 := cell_of_belowY hb5 y3 hbr4
        replace y4 := cell_of_belowY hb5 y4 hbr4
        replace y5 := cell_of_belowY hb5 y5 hbr4
        have hs5 : w3.heap.size ≤ w5.heap.size := bb5.size
        go_wp2_with (at_builtin; refine pushF_law (f := yc) (y := y) svcT yc_len yc_one rfl (.tmp 61) (.tmp 66) rfl w3.heap.size (by rw [yc, EWL.out]) rfl rfl own5 (by omega) (by omega) hs5 ?_; rintro A6 c6 w6 hown6 hb6 _)
        go_roundw
        case rel => exact ⟨k + 1, j + 1, A6, c6, by omega, by omega, rfl, by go_num, Lib.hid (by rw [HT.out, List.length_append, hjl.out]; rfl), by rw [HT.out]; exact hown6, bb5.trans hb6⟩
        case measure => simp [intOf]; omega
    · have E : Hid (L.take k = L) := Lib.hid (List.take_of_length_le (by have := HL3.out; omega))
      rw [E.out, ← EO.out] at own hjl
      have HO := Lib.hid own
      clear own x0 x1 x2
      go_wp2
      go_ret
      exact ⟨A4, j, c4, rfl, by rw [ER.out]; exact hjl.out, by rw [ER.out]; exact own_mono HO.out (by omega), b3.trans (b.mono (by omega))⟩
end Go.Proofs.YtmbfldcmiabccaaGreatDoor

namespace Go.Proofs.YtmbfldcmiabccaaGreatDoor
set_option linter.unusedVariables false
set_option linter.unusedSimpArgs false
open Go.RowKit
theorem offered_few (s : Scn) (n : Int) (name : List UInt8) : (Zo.offered s n name).length ≤ (Zo.apps s.view n).length := by
  have h1 : ∀ q : List Ent, (Y.all q).length ≤ q.length := fun q => by
    induction q with
    | nil => simp [Y.all]
    | cons a q ih =>
      show (if Y.tells a then (Y.dec a.val).1 :: Y.all q else Y.all q).length ≤ _
      split <;> simp <;> omega
  unfold Zo.offered
  exact Nat.le_trans (List.length_filter_le _ _) (h1 _)
theorem some_pos {s : Scn} {name : List UInt8} {n : Int} {q : Nat} (h : (Zo.offered s n name).length = q) : Zo.some_ s name n = decide (0 < q) := by
  unfold Zo.some_
  rw [← h]
  cases Zo.offered s n name <;> simp
theorem is_name {s : Scn} {name : List UInt8} (h : Lab.same name s.dom = true) : Zo.is s name = true := by unfold Zo.is; rw [h]; rfl
theorem is_host {s : Scn} {name : List UInt8} (h : 0 ≤ Zo.host s name) : Zo.is s name = true := by unfold Zo.is; rw [decide_eq_true h]; simp
theorem is_srv {s : Scn} {name : List UInt8} {n : Int} (hn : n ∈ Zo.counts s) (h : Zo.some_ s name n = true) : Zo.is s name = true := by unfold Zo.is; rw [List.any_eq_true.2 ⟨n, hn, h⟩]; simp
theorem is_none {s : Scn} {name : List UInt8} (h1 : Lab.same name s.dom = false) (h2 : ¬ 0 ≤ Zo.host s name) (h3 : ∀ n ∈ Zo.counts s, Zo.some_ s name n = false) : Zo.is s name = false := by
  unfold Zo.is
  rw [h1, decide_eq_false h2, List.any_eq_false.2 fun n hn => by rw [h3 n hn]; simp]
  rfl
/-- a scene that is looked at -/
structure SnOk (s : Sn) : Prop where
  fit : SnFit s
  val : ∀ x ∈ s.v.view, ∀ y ∈ x.st.apps, y.val.length ≤ 140737488351232
  dom : s.dom.length ≤ 1000
set_option maxHeartbeats 4000000 in
set_option maxRecDepth 20000 in
theorem rois_any (s : Sn) (name : List UInt8) (w : World) (h : SnRd w s) (hok : SnOk s) (hn : name.length ≤ 100000) :
    Calls Tryz.prog 15 #[snval s, .string (strB name)] w (BoB (Zo.is s.sc name) w) := by
  have hd := hok.dom
  have X := Box.new w (sncs s) 25
  have bw := (Below.refl w.heap.size w).alloc (Nat.le_refl _) (.cells (sncs s) 25)
  have hsz : (w.alloc (.cells (sncs s) 25)).heap.size = w.heap.size + 1 := by simp
  have hrd := h.alloc (.cells (sncs s) 25)
  have CC : Hid (∀ W, SnRd W s → Calls Tryz.prog 13 #[snval s] W (OwnI (Zo.counts s.sc) W)) := Lib.hid fun W hW => rocounts_any s W hW hok.fit
  have CH : Hid (∀ W, SnRd W s → Calls Tryz.prog 38 #[snval s, .string (strB name)] W fun e w' => e = .returned (.int .i64 (Zo.host s.sc name)) ∧ Below W.heap.size W w') := Lib.hid fun W hW => rohostof_any s name W hW hok.fit hd hn
  have CO : Hid (∀ W y, SnRd W s → Calls Tryz.prog 39 #[snval s, .int .i64 y, .string (strB name)] W (OwnY (Zo.offered s.sc y name) W)) := Lib.hid fun W y hW => rooffered_any s y name W hW hok.fit hok.val hd hn
  obtain ⟨cs, ecs⟩ : ∃ z, Zo.counts s.sc = z := ⟨_, rfl⟩
  have hfew : cs.length ≤ 1000 := by
    have h1 := cnts_few s.al s.v.view
    have h2 := h.1.viewlen
    have h3 := hok.fit.1
    rw [← ecs, Zo.counts_cnts]
    show (Zo.cnts s.al s.v.view).length ≤ 1000
    omega
  have SB := Lib.hid (fun (W : World) (W' : World) (hW : SnRd W s) (hb : Below W.heap.size W W') => hW.belowH hb)
  have IY : Hid (∀ {n : Int}, n ∈ cs → Zo.some_ s.sc name n = true → Zo.is s.sc name = true) := Lib.hid fun hn ht => is_srv (by rw [ecs]; exact hn) ht
  have IN : Hid (Lab.same name s.dom = false → ¬ 0 ≤ Zo.host s.sc name → (∀ n ∈ cs, Zo.some_ s.sc name n = false) → Zo.is s.sc name = false) := Lib.hid fun h1 h2 h3 => is_none (s := s.sc) h1 h2 (by rw [ecs]; exact h3)
  have I1 : Hid (Lab.same name s.dom = true → Zo.is s.sc name = true) := Lib.hid (fun h1 => is_name (s := s.sc) h1)
  have I2 : Hid (0 ≤ Zo.host s.sc name → Zo.is s.sc name = true) := Lib.hid is_host
  have SP : Hid (∀ {n : Int} {q : Nat}, (Zo.offered s.sc n name).length = q → Zo.some_ s.sc name n = decide (0 < q)) := Lib.hid some_pos
  obtain ⟨is, eis⟩ : ∃ z, Zo.is s.sc name = z := ⟨_, rfl⟩
  rw [eis] at IY IN I1 I2
  rw [ecs] at CC
  have EIS := Lib.hid eis
  obtain ⟨hh, ehh⟩ : ∃ z, Zo.host s.sc name = z := ⟨_, rfl⟩
  rw [ehh] at CH IN I2
  obtain ⟨f, ef⟩ : ∃ f : Int → List Svc, ∀ y, Zo.offered s.sc y name = f y := ⟨_, fun _ => rfl⟩
  obtain ⟨p, ep⟩ : ∃ p : Int → Bool, ∀ y, Zo.some_ s.sc name y = p y := ⟨_, fun _ => rfl⟩
  simp only [ef] at CO SP
  simp only [ep] at SP IY IN
  obtain ⟨P, eP⟩ : ∃ P : World → Prop, ∀ W, SnRd W s = P W := ⟨_, fun _ => rfl⟩
  simp only [eP] at CC CH CO SB hrd
  clear eis ecs ehh ef ep hok h eP
  obtain ⟨⟨l, A, n, c⟩, al, B, m, d, dom⟩ := s
  simp only [snval, sncs] at *
  go_enter Tryz.func15, Tryz.ntmps15
  go_upto_region 1 with fail
  have x0 := X.at 0 rfl
  have x1 := X.at 1 rfl
  have x2 := X.at 2 rfl
  generalize (w.alloc (.cells #[.slice A n c, .slice B m d, .string (strB dom)] 25)) = w0 at *
  have hlt0 : w.heap.size < w0.heap.size := by omega
  clear hsz
  obtain ⟨sd, esd⟩ : ∃ z, Lab.same name dom = z := ⟨_, rfl⟩
  rw [esd] at I1 IN
  have C1 := rsamel_at esd hn (by omega) w0
  clear esd
  go_wp2_with fail
  refine C1.mono ?_
  clear C1
  rintro e w1 ⟨rfl, hb1⟩
  have X1 := X.below hb1 hlt0
  have b1 : Below w.heap.size w w1 := bw.trans (hb1.mono (by omega))
  have P1 := SB.out _ _ hrd hb1
  clear x0 x1 x2
  cases sd
  · have x0 := X1.at 0 rfl
    have x1 := X1.at 1 rfl
    have x2 := X1.at 2 rfl
    have C2 := CH.out w1 P1
    have hs1 : w.heap.size < w1.heap.size := by have := hb1.size; omega
    go_wp2_with fail
    refine C2.mono ?_
    clear C2
    rintro e w2 ⟨rfl, hb2⟩
    have b2 := b1.trans (hb2.mono b1.size)
    have X2 := X1.below hb2 hs1
    have hs2 : w.heap.size < w2.heap.size := by have := hb2.size; omega
    have P2 := SB.out _ _ P1 hb2
    clear x0 x1 x2
    by_cases hh0 : 0 ≤ hh
    · have HE : Hid (is = true) := Lib.hid (I2.out hh0)
      have t1 : decide (0 ≤ hh) = true := decide_eq_true hh0
      clear hh0
      go_wp2
      go_ret
      exact ⟨ret_bool (by rw [EIS.out, HE.out]), b2⟩
    · have t1 : decide (0 ≤ hh) = false := decide_eq_false hh0
      have HN := Lib.hid (IN.out (by first | rfl | trivial) (by first | exact hh0 | omega))
      have x0 := X2.at 0 rfl
      have x1 := X2.at 1 rfl
      have x2 := X2.at 2 rfl
      have C3 := CC.out w2 P2
      clear hh0
      go_wp2_with fail
      refine C3.mono ?_
      clear C3
      rintro e w3 ⟨A3, n3, c3, rfl, hl3, own3, hb3⟩
      have R3 := Rd.of_own own3
      have hn3 : n3 ≤ 1000 := by omega
      have HL3 := Lib.hid hl3
      have X3 := X2.below hb3 hs2
      have b3 := b2.trans (hb3.mono b2.size)
      have hs3 : w.heap.size < w3.heap.size := by have := hb3.size; omega
      have P3 := SB.out _ _ P2 hb3
      clear x0 x1 x2 own3 hl3
      go_wp2
      go_loopw [6] (fun i wr => ∃ k : Nat, k ≤ n3 ∧ i = .int .i64 (k : Int) ∧ Hid (∀ y ∈ cs.take k, p y = false) ∧ Below w3.heap.size w3 wr) (fun i _ => n3 - (intOf i).toNat)
      case atStart => exact ⟨0, Nat.zero_le _, rfl, Lib.hid (by simp), Below.refl _ _⟩
      case round =>
        obtain ⟨k, hk, rfl, HNO, b⟩ := hrel
        have X4 := X3.below b hs3
        have x0 := X4.at 0 rfl
        have x1 := X4.at 1 rfl
        have x2 := X4.at 2 rfl
        have bs := b.size
        have hs4 : w.heap.size < wr.heap.size := by omega
        have P4 := SB.out _ _ P3 b
        by_cases hlt : k < n3
        · obtain ⟨bq, oq, y, rfl, hbq, hy, c0⟩ := (R3.belowH b).atI hlt
          have HY := Lib.hid hy
          have hk0 : (0 : Int) ≤ (k : Int) := by omega
          have hbr : bq < wr.heap.size := by omega
          have C4 : Hid (∀ W, P W → Calls _ _ _ W (OwnY (f y) W)) := Lib.hid fun W hW => CO.out W y hW
          have P5 : Hid (P wr) := Lib.hid P4
          clear hy
          go_wp2
          refine wp_region_held_drew (S := (fun w' => (w'.cell? ⟨w.heap.size, 0, none⟩ = some (.slice A n c) ∧ w'.cell? ⟨w.heap.size, 1, none⟩ = some (.slice B m d) ∧ w'.cell? ⟨w.heap.size, 2, none⟩ = some (.string (strB dom))) ∧ w'.cell? ⟨bq, oq + k, none⟩ = some (.int .i64 y))) (by kernel_rfl) (by exact ⟨⟨x0, x1, x2⟩, c0⟩) (fun hHeld0 => ?_)
          refine tk 0 25 rfl hHeld0 ?_
          refine tk 1 26 rfl hHeld0 ?_
          refine tk 2 27 rfl hHeld0 ?_
          refine tk 3 28 rfl hHeld0 ?_
          refine tk 4 29 rfl hHeld0 ?_
          refine tk 5 30 rfl hHeld0 ?_
          refine wpAnyH_ready (rs := [6]) (by kernel_rfl) (by simp) (AllReadyH.cons (o := ⟨some 31, _, _, _, _, _⟩) rfl (fun K hK => ?_) AllReadyH.nil)
          go_simp
          (refine (C4.out _ (SB.out wr _ P5.out (Below.refl _ _).drew)).mono ?_; rintro e w5 ⟨A5, n5, c5, rfl, hl5, own5, hb5⟩; have HL5 := Lib.hid hl5; clear hl5 own5; replace hb5 : Below wr.heap.size wr w5 := (Below.refl _ _).drew.trans hb5; have X5 := X4.below hb5 hs4; replace x0 := X5.at 0 rfl; replace x1 := X5.at 1 rfl; replace x2 := X5.at 2 rfl; replace c0 := (hb5.cell (p := ⟨bq, oq + k, none⟩) hbr).trans c0)
          go_simp
          refine hK.out _ _ (by exact ⟨⟨x0, x1, x2⟩, c0⟩) (fun hHeld1 => ?_)
          clear hK hHeld0 K
          try simp only [Act.put, sA, sB, sC]
          refine tk 7 32 rfl hHeld1 ?_
          refine tk 8 33 rfl hHeld1 ?_
          refine wpAnyH_done (by kernel_rfl) ?_ _
          have b5 := b.trans (hb5.mono b.size)
          have ST := Lib.hid (SP.out HL5.out)
          by_cases h0 : 0 < n5
          · have HE : Hid (is = true) := Lib.hid (IY.out (List.mem_of_getElem? HY.out) (by rw [ST.out, decide_eq_true h0]))
            have t5 : decide ((0 : Int) < (n5 : Int)) = true := decide_eq_true (by omega)
            have t6 : decide (0 < n5) = true := decide_eq_true h0
            go_wp2
            go_ret
            exact ⟨ret_bool (by rw [EIS.out, HE.out]), b3.trans (b5.mono (by omega))⟩
          · have HN2 : Hid (∀ y ∈ cs.take (k + 1), p y = false) := Lib.hid (by
              rw [take_more HY.out]
              intro z hz
              rcases List.mem_append.1 hz with hz | hz
              · exact HNO.out z hz
              · rw [List.mem_singleton.1 hz, ST.out, decide_eq_false h0])
            have t5 : decide ((0 : Int) < (n5 : Int)) = false := decide_eq_false (by omega)
            have t6 : decide (0 < n5) = false := decide_eq_false h0
            go_wp2
            go_roundw
            case rel => exact ⟨k + 1, by omega, by go_num, HN2, b5⟩
            case measure => simp [intOf]; omega
        · have HE : Hid (is = false) := Lib.hid (HN.out (by have h1 := HNO.out; rwa [List.take_of_length_le (by have := HL3.out; omega)] at h1))
          go_wp2
          go_ret
          exact ⟨ret_bool (by rw [EIS.out, HE.out]), b3.trans (b.mono (by omega))⟩
  · have HE : Hid (is = true) := Lib.hid (I1.out (by first | rfl | trivial))
    go_wp2
    go_ret
    exact ⟨ret_bool (by rw [EIS.out, HE.out]), b1⟩
end Go.Proofs.YtmbfldcmiabccaaGreatDoor

namespace Go.Proofs.YtmbfldcmiabccaaGreatDoor
set_option linter.unusedVariables false
set_option linter.unusedSimpArgs false
open Go.RowKit
theorem flat_more {α β : Type} (f : α → List β) {l : List α} {k : Nat} {x : α} (h : l[k]? = some x) : (l.take (k + 1)).flatMap f = (l.take k).flatMap f ++ f x := by rw [take_more h, List.flatMap_append]; simp
theorem one_txt {w : World} {b : UInt8} {z : Int} (hz : (b.toNat : Int) = z) : (convert 58 9 (.slice (some ⟨w.heap.size, 0, none⟩) 1 1)).run Tryz.prog (w.alloc (.cells #[.int .u8 z] 5)) = .ok (.string (strB [b])) (w.alloc (.cells #[.int .u8 z] 5)) :=
  run_str 58 9 5 Tryz.underlying58 Tryz.underlying5 Tryz.underlying9 (l := [b]) (B := w.heap.size + 1) (by rw [show U [b] = [.int .u8 z] by rw [← hz]; rfl]; exact Rd.lit w #[.int .u8 z] 5 1 1 rfl)
set_option maxHeartbeats 4000000 in
set_option maxRecDepth 20000 in
theorem rolay2_any (l : List Int) (A : Option Addr) (n c : Nat) (w : World) (h : Rd w w.heap.size 1 A n (I l)) (hn : n ≤ 1000) (hv : ∀ v ∈ l, 0 ≤ v ∧ v ≤ 9223372036854775807) :
    Calls Tryz.prog 46 #[.int .i64 2, .slice A n c] w (TxO (l.flatMap fun v => Pk.b2 v.toNat) w) := by
  have hl : l.length = n := by have := h.len1; rwa [I_length] at this
  have HL := Lib.hid hl
  have HV := Lib.hid hv
  clear hl hv
  go_enter Tryz.func46, Tryz.ntmps46
  go_wp2
  go_loopw [5, 6] (fun o i wr => ∃ (k : Nat) (t : List UInt8), k ≤ n ∧ o = .string (strB t) ∧ i = .int .i64 (k : Int) ∧ Hid (t = (l.take k).flatMap fun v => Pk.b2 v.toNat) ∧ t.length ≤ 2 * k ∧ Below w.heap.size w wr) (fun _ i _ => n - (intOf i).toNat)
  case atStart => exact ⟨0, [], Nat.zero_le _, rfl, rfl, Lib.hid rfl, by simp, Below.refl _ _⟩
  case round =>
    obtain ⟨k, t, hk, rfl, rfl, HT, ht, b⟩ := hrel
    by_cases hlt : k < n
    · obtain ⟨bq, oq, v, rfl, hbq, hx, c0⟩ := (h.belowH b).atI hlt
      have HX := Lib.hid hx
      have hvv := HV.out v (List.mem_of_getElem? hx)
      have hk0 : (0 : Int) ≤ (k : Int) := by omega
      have bs := b.size
      have hbr : bq < wr.heap.size := by omega
      clear hx
      obtain ⟨x1, hx1⟩ : ∃ x, UInt8.ofNat (v.toNat / 256) = x := ⟨_, rfl⟩
      have e1 : Hid (((x1.toNat : Nat) : Int) = v / 256 % 256) := Lib.hid (by rw [← hx1, UInt8.toNat_ofNat']; omega)
      obtain ⟨x0, hx0⟩ : ∃ x, UInt8.ofNat (v.toNat) = x := ⟨_, rfl⟩
      have e0 : Hid (((x0.toNat : Nat) : Int) = v % 256) := Lib.hid (by rw [← hx0, UInt8.toNat_ofNat']; omega)
      have HB : Hid (Pk.b2 v.toNat = [x1, x0]) := Lib.hid (by unfold Pk.b2; rw [hx1, hx0])
      clear hx1 hx0
      generalize wr = wo at *
      go_wp2
      go_loopw [5, 7] (fun o i wr => ∃ u : List UInt8, o = .string (strB u) ∧ Below wo.heap.size wo wr ∧ ((i = .int .i64 1 ∧ Hid (u = t ++ []) ∧ u.length = t.length + 0) ∨ (i = .int .i64 0 ∧ Hid (u = t ++ [x1]) ∧ u.length = t.length + 1) ∨ (i = .int .i64 (-1) ∧ Hid (u = t ++ [x1, x0]) ∧ u.length = t.length + 2))) (fun _ i _ => (intOf i + 1).toNat)
      case atStart => exact ⟨t, rfl, Below.refl _ _, Or.inl ⟨by go_num, Lib.hid (by simp), rfl⟩⟩
      case round =>
        obtain ⟨u, rfl, bq2, hi⟩ := hrel
        have bqs := bq2.size
        replace c0 := (bq2.cell (p := ⟨bq, oq + k, none⟩) hbr).trans c0
        rcases hi with ⟨rfl, HU, hu⟩ | ⟨rfl, HU, hu⟩ | ⟨rfl, HU, hu⟩
        · have E := Lib.hid (one_txt (w := wr) e1.out)
          have A1 : ∀ w, (Op.stringOp .add (strB u) (strB [x1])).run Tryz.prog w = .ok (.string (strB (u ++ [x1]))) w := fun w => run_two (by simp; omega)
          have c1 := (World.cell?_alloc_lt wr (.cells #[.int .u8 (v / 256 % 256)] 5) ⟨bq, oq + k, none⟩ (show bq < wr.heap.size by omega)).trans c0
          have E1 := E.out
          go_wp2
          go_roundw
          case rel => exact ⟨u ++ [x1], rfl, bq2.alloc bq2.size _, Or.inr (Or.inl ⟨by go_num, Lib.hid (by rw [HU.out]; simp), by simp; omega⟩)⟩
          case measure => simp [intOf]
        · have E := Lib.hid (one_txt (w := wr) e0.out)
          have A1 : ∀ w, (Op.stringOp .add (strB u) (strB [x0])).run Tryz.prog w = .ok (.string (strB (u ++ [x0]))) w := fun w => run_two (by simp; omega)
          have c1 := (World.cell?_alloc_lt wr (.cells #[.int .u8 (v % 256)] 5) ⟨bq, oq + k, none⟩ (show bq < wr.heap.size by omega)).trans c0
          have E1 := E.out
          go_wp2
          go_roundw
          case rel => exact ⟨u ++ [x0], rfl, bq2.alloc bq2.size _, Or.inr (Or.inr (⟨by go_num, Lib.hid (by rw [HU.out]; simp), by simp; omega⟩))⟩
          case measure => simp [intOf]
        · have HT2 : Hid (u = (l.take (k + 1)).flatMap fun v => Pk.b2 v.toNat) := Lib.hid (by rw [flat_more _ HX.out, HU.out, HT.out, HB.out])
          go_wp2
          go_roundw
          case rel => exact ⟨k + 1, u, by omega, rfl, by go_num, HT2, by omega, b.trans (bq2.mono b.size)⟩
          case measure => simp [intOf]; omega
    · have E : Hid (l.take k = l) := Lib.hid (List.take_of_length_le (by have := HL.out; omega))
      have HE : Hid (t = l.flatMap fun v => Pk.b2 v.toNat) := Lib.hid (by rw [HT.out, E.out])
      go_wp2
      go_ret
      exact ⟨by rw [← HE.out]; rfl, b⟩
set_option maxHeartbeats 4000000 in
set_option maxRecDepth 20000 in
theorem rolay4_any (l : List Int) (A : Option Addr) (n c : Nat) (w : World) (h : Rd w w.heap.size 1 A n (I l)) (hn : n ≤ 1000) (hv : ∀ v ∈ l, 0 ≤ v ∧ v ≤ 9223372036854775807) :
    Calls Tryz.prog 46 #[.int .i64 4, .slice A n c] w (TxO (l.flatMap fun v => Pk.b4 v.toNat) w) := by
  have hl : l.length = n := by have := h.len1; rwa [I_length] at this
  have HL := Lib.hid hl
  have HV := Lib.hid hv
  clear hl hv
  go_enter Tryz.func46, Tryz.ntmps46
  go_wp2
  go_loopw [5, 6] (fun o i wr => ∃ (k : Nat) (t : List UInt8), k ≤ n ∧ o = .string (strB t) ∧ i = .int .i64 (k : Int) ∧ Hid (t = (l.take k).flatMap fun v => Pk.b4 v.toNat) ∧ t.length ≤ 4 * k ∧ Below w.heap.size w wr) (fun _ i _ => n - (intOf i).toNat)
  case atStart => exact ⟨0, [], Nat.zero_le _, rfl, rfl, Lib.hid rfl, by simp, Below.refl _ _⟩
  case round =>
    obtain ⟨k, t, hk, rfl, rfl, HT, ht, b⟩ := hrel
    by_cases hlt : k < n
    · obtain ⟨bq, oq, v, rfl, hbq, hx, c0⟩ := (h.belowH b).atI hlt
      have HX := Lib.hid hx
      have hvv := HV.out v (List.mem_of_getElem? hx)
      have hk0 : (0 : Int) ≤ (k : Int) := by omega
      have bs := b.size
      have hbr : bq < wr.heap.size := by omega
      clear hx
      obtain ⟨x3, hx3⟩ : ∃ x, UInt8.ofNat (v.toNat / 16777216) = x := ⟨_, rfl⟩
      have e3 : Hid (((x3.toNat : Nat) : Int) = v / 16777216 % 256) := Lib.hid (by rw [← hx3, UInt8.toNat_ofNat']; omega)
      obtain ⟨x2, hx2⟩ : ∃ x, UInt8.ofNat (v.toNat / 65536) = x := ⟨_, rfl⟩
      have e2 : Hid (((x2.toNat : Nat) : Int) = v / 65536 % 256) := Lib.hid (by rw [← hx2, UInt8.toNat_ofNat']; omega)
      obtain ⟨x1, hx1⟩ : ∃ x, UInt8.ofNat (v.toNat / 256) = x := ⟨_, rfl⟩
      have e1 : Hid (((x1.toNat : Nat) : Int) = v / 256 % 256) := Lib.hid (by rw [← hx1, UInt8.toNat_ofNat']; omega)
      obtain ⟨x0, hx0⟩ : ∃ x, UInt8.ofNat (v.toNat) = x := ⟨_, rfl⟩
      have e0 : Hid (((x0.toNat : Nat) : Int) = v % 256) := Lib.hid (by rw [← hx0, UInt8.toNat_ofNat']; omega)
      have HB : Hid (Pk.b4 v.toNat = [x3, x2, x1, x0]) := Lib.hid (by unfold Pk.b4; rw [hx3, hx2, hx1, hx0])
      clear hx3 hx2 hx1 hx0
      generalize wr = wo at *
      go_wp2
      go_loopw [5, 7] (fun o i wr => ∃ u : List UInt8, o = .string (strB u) ∧ Below wo.heap.size wo wr ∧ ((i = .int .i64 3 ∧ Hid (u = t ++ []) ∧ u.length = t.length + 0) ∨ (i = .int .i64 2 ∧ Hid (u = t ++ [x3]) ∧ u.length = t.length + 1) ∨ (i = .int .i64 1 ∧ Hid (u = t ++ [x3, x2]) ∧ u.length = t.length + 2) ∨ (i = .int .i64 0 ∧ Hid (u = t ++ [x3, x2, x1]) ∧ u.length = t.length + 3) ∨ (i = .int .i64 (-1) ∧ Hid (u = t ++ [x3, x2, x1, x0]) ∧ u.length = t.length + 4))) (fun _ i _ => (intOf i + 1).toNat)
      case atStart => exact ⟨t, rfl, Below.refl _ _, Or.inl ⟨by go_num, Lib.hid (by simp), rfl⟩⟩
      case round =>
        obtain ⟨u, rfl, bq2, hi⟩ := hrel
        have bqs := bq2.size
        replace c0 := (bq2.cell (p := ⟨bq, oq + k, none⟩) hbr).trans c0
        rcases hi with ⟨rfl, HU, hu⟩ | ⟨rfl, HU, hu⟩ | ⟨rfl, HU, hu⟩ | ⟨rfl, HU, hu⟩ | ⟨rfl, HU, hu⟩
        · have E := Lib.hid (one_txt (w := wr) e3.out)
          have A1 : ∀ w, (Op.stringOp .add (strB u) (strB [x3])).run Tryz.prog w = .ok (.string (strB (u ++ [x3]))) w := fun w => run_two (by simp; omega)
          have c1 := (World.cell?_alloc_lt wr (.cells #[.int .u8 (v / 16777216 % 256)] 5) ⟨bq, oq + k, none⟩ (show bq < wr.heap.size by omega)).trans c0
          have E1 := E.out
          go_wp2
          go_roundw
          case rel => exact ⟨u ++ [x3], rfl, bq2.alloc bq2.size _, Or.inr (Or.inl ⟨by go_num, Lib.hid (by rw [HU.out]; simp), by simp; omega⟩)⟩
          case measure => simp [intOf]
        · have E := Lib.hid (one_txt (w := wr) e2.out)
          have A1 : ∀ w, (Op.stringOp .add (strB u) (strB [x2])).run Tryz.prog w = .ok (.string (strB (u ++ [x2]))) w := fun w => run_two (by simp; omega)
          have c1 := (World.cell?_alloc_lt wr (.cells #[.int .u8 (v / 65536 % 256)] 5) ⟨bq, oq + k, none⟩ (show bq < wr.heap.size by omega)).trans c0
          have E1 := E.out
          go_wp2
          go_roundw
          case rel => exact ⟨u ++ [x2], rfl, bq2.alloc bq2.size _, Or.inr (Or.inr (Or.inl ⟨by go_num, Lib.hid (by rw [HU.out]; simp), by simp; omega⟩))⟩
          case measure => simp [intOf]
        · have E := Lib.hid (one_txt (w := wr) e1.out)
          have A1 : ∀ w, (Op.stringOp .add (strB u) (strB [x1])).run Tryz.prog w = .ok (.string (strB (u ++ [x1]))) w := fun w => run_two (by simp; omega)
          have c1 := (World.cell?_alloc_lt wr (.cells #[.int .u8 (v / 256 % 256)] 5) ⟨bq, oq + k, none⟩ (show bq < wr.heap.size by omega)).trans c0
          have E1 := E.out
          go_wp2
          go_roundw
          case rel => exact ⟨u ++ [x1], rfl, bq2.alloc bq2.size _, Or.inr (Or.inr (Or.inr (Or.inl ⟨by go_num, Lib.hid (by rw [HU.out]; simp), by simp; omega⟩)))⟩
          case measure => simp [intOf]
        · have E := Lib.hid (one_txt (w := wr) e0.out)
          have A1 : ∀ w, (Op.stringOp .add (strB u) (strB [x0])).run Tryz.prog w = .ok (.string (strB (u ++ [x0]))) w := fun w => run_two (by simp; omega)
          have c1 := (World.cell?_alloc_lt wr (.cells #[.int .u8 (v % 256)] 5) ⟨bq, oq + k, none⟩ (show bq < wr.heap.size by omega)).trans c0
          have E1 := E.out
          go_wp2
          go_roundw
          case rel => exact ⟨u ++ [x0], rfl, bq2.alloc bq2.size _, Or.inr (Or.inr (Or.inr (Or.inr (⟨by go_num, Lib.hid (by rw [HU.out]; simp), by simp; omega⟩))))⟩
          case measure => simp [intOf]
        · have HT2 : Hid (u = (l.take (k + 1)).flatMap fun v => Pk.b4 v.toNat) := Lib.hid (by rw [flat_more _ HX.out, HU.out, HT.out, HB.out])
          go_wp2
          go_roundw
          case rel => exact ⟨k + 1, u, by omega, rfl, by go_num, HT2, by omega, b.trans (bq2.mono b.size)⟩
          case measure => simp [intOf]; omega
    · have E : Hid (l.take k = l) := Lib.hid (List.take_of_length_le (by have := HL.out; omega))
      have HE : Hid (t = l.flatMap fun v => Pk.b4 v.toNat) := Lib.hid (by rw [HT.out, E.out])
      go_wp2
      go_ret
      exact ⟨by rw [← HE.out]; rfl, b⟩
end Go.Proofs.YtmbfldcmiabccaaGreatDoor

namespace Go.Proofs.YtmbfldcmiabccaaGreatDoor
set_option linter.unusedVariables false
set_option linter.unusedSimpArgs false
open Go.RowKit
/-- labels ahead, by a literal of one text -/
theorem ahead_lit (v0 v1 : Value) (h0 : v0.oneCell' = true) (h1 : v1.oneCell' = true) {dom s : List UInt8} {t : List UInt8} {ok : Bool} (e : Zo.ahead dom [s] = (t, ok)) (hs : s.length ≤ 1000) (hd : dom.length ≤ 1000) (w : World) :
    Calls Tryz.prog 24 #[.agg #[v0, v1, .string (strB dom)], .slice (some ⟨w.heap.size, 0, none⟩) 1 1] (w.alloc (.cells #[.string (strB s)] 9)) (TxB t ok (w.alloc (.cells #[.string (strB s)] 9))) := by
  have R := Rd.lit w #[.string (strB s)] 9 1 1 rfl
  have h := roahead_any v0 v1 h0 h1 dom [s] _ 1 1 (w.alloc (.cells #[.string (strB s)] 9)) (R.more (by simp)) (by omega) (by intro x hx; rw [List.mem_singleton.1 hx]; exact hs) hd
  rw [e] at h
  exact h
/-- two texts and whether they are -/
def TwB (s t : List UInt8) (b : Bool) (w : World) (e : Ending) (w' : World) : Prop := e = .returned (.tuple #[.string (strB s), .string (strB t), .bool b]) ∧ Below w.heap.size w w'
set_option maxHeartbeats 4000000 in
set_option maxRecDepth 20000 in
theorem rostart_any (A B : Option Addr) (n c m d : Nat) (dom : List UInt8) (w : World) (hd : dom.length ≤ 1000) :
    Calls Tryz.prog 27 #[.agg #[.slice A n c, .slice B m d, .string (strB dom)]] w (TwB (Zo.first dom).1 (Zo.ns dom).1 (Zo.first dom).2 w) := by
  have X := Box.new w #[.slice A n c, .slice B m d, .string (strB dom)] 25
  have bw := (Below.refl w.heap.size w).alloc (Nat.le_refl _) (.cells #[.slice A n c, .slice B m d, .string (strB dom)] 25)
  have hsz : (w.alloc (.cells #[.slice A n c, .slice B m d, .string (strB dom)] 25)).heap.size = w.heap.size + 1 := by simp
  go_enter Tryz.func27, Tryz.ntmps27
  go_upto_region 1 with fail
  generalize (w.alloc (.cells #[.slice A n c, .slice B m d, .string (strB dom)] 25)) = w0 at *
  have hlt0 : w.heap.size < w0.heap.size := by omega
  clear hsz
  have x0 := X.at 0 rfl
  have x1 := X.at 1 rfl
  have x2 := X.at 2 rfl
  obtain ⟨⟨t1, o1⟩, et1⟩ : ∃ z, Zo.ns dom = z := ⟨_, rfl⟩
  obtain ⟨⟨t2, o2⟩, et2⟩ : ∃ z, Zo.root dom = z := ⟨_, rfl⟩
  have ht1 : t1.length ≤ 255 := by have h1 := ahead_short dom [[110, 115]]; rw [show Zo.ahead dom [[110, 115]] = (t1, o1) from et1] at h1; exact h1
  have ht2 : t2.length ≤ 255 := by have h1 := ahead_short dom [[114, 111, 111, 116]]; rw [show Zo.ahead dom [[114, 111, 111, 116]] = (t2, o2) from et2] at h1; exact h1
  have C1 := Lib.hid (fun W => ahead_lit (.slice A n c) (.slice B m d) rfl rfl et1 (by decide) hd W)
  have C2 := Lib.hid (fun W => ahead_lit (.slice A n c) (.slice B m d) rfl rfl et2 (by decide) hd W)
  have EN : Hid (Zo.ns dom = (t1, o1)) := Lib.hid et1
  have EF : Hid (Zo.first dom = (t1 ++ t2 ++ Zo.soa, o1 && o2)) := Lib.hid (by unfold Zo.first; rw [et1, et2])
  clear et1 et2
  have D1 := C1.out w0
  have bl1 := (Below.refl w0.heap.size w0).alloc (Nat.le_refl _) (.cells #[.string (strB [110, 115])] 9)
  go_wp2_with fail
  refine D1.mono ?_
  clear D1
  rintro e w1 ⟨rfl, hb1⟩
  have b1 := bl1.trans (hb1.mono bl1.size)
  have X1 := X.below b1 hlt0
  have hlt1 : w.heap.size < w1.heap.size := by have := b1.size; omega
  replace b1 := bw.trans (b1.mono (by omega))
  clear x0 x1 x2 bl1 hb1
  have x0 := X1.at 0 rfl
  have x1 := X1.at 1 rfl
  have x2 := X1.at 2 rfl
  have D2 := C2.out w1
  have bl2 := (Below.refl w1.heap.size w1).alloc (Nat.le_refl _) (.cells #[.string (strB [114, 111, 111, 116])] 9)
  go_wp2_with fail
  refine D2.mono ?_
  clear D2
  rintro e w2 ⟨rfl, hb2⟩
  have b2 := b1.trans ((bl2.trans (hb2.mono bl2.size)).mono b1.size)
  clear x0 x1 x2 bl2 hb2
  have A1 : ∀ w, (Op.stringOp .add (strB t1) (strB t2)).run Tryz.prog w = .ok (.string (strB (t1 ++ t2))) w := fun w => run_two (by omega)
  have A2 : ∀ w, (Op.stringOp .add (strB (t1 ++ t2)) (strB Zo.soa)).run Tryz.prog w = .ok (.string (strB (t1 ++ t2 ++ Zo.soa))) w := fun w => run_two (by rw [List.length_append]; have : Zo.soa.length = 20 := rfl; omega)
  have R : Rd (w2.alloc (.cells #[.int .i64 1, .int .i64 5, .int .i64 5, .int .i64 5, .int .i64 5] 3)) (w2.alloc (.cells #[.int .i64 1, .int .i64 5, .int .i64 5, .int .i64 5, .int .i64 5] 3)).heap.size 1 (some ⟨w2.heap.size, 0, none⟩) 5 (I [1, 5, 5, 5, 5]) := (Rd.lit w2 #[.int .i64 1, .int .i64 5, .int .i64 5, .int .i64 5, .int .i64 5] 3 1 5 rfl).more (by simp)
  have C3 := rolay4_any [1, 5, 5, 5, 5] _ 5 5 _ R (by omega) (by decide)
  rw [show ([1, 5, 5, 5, 5] : List Int).flatMap (fun v => Pk.b4 v.toNat) = Zo.soa from by decide] at C3
  have bl3 := (Below.refl w2.heap.size w2).alloc (Nat.le_refl _) (.cells #[.int .i64 1, .int .i64 5, .int .i64 5, .int .i64 5, .int .i64 5] 3)
  obtain ⟨so, eso⟩ : ∃ z, Zo.soa = z := ⟨_, rfl⟩
  rw [eso] at C3 A2 EF
  clear R eso C1 C2
  go_wp2_with fail
  refine C3.mono ?_
  clear C3
  rintro e w3 ⟨rfl, hb3⟩
  have b3 := b2.trans ((bl3.trans (hb3.mono bl3.size)).mono b2.size)
  clear bl3 hb3
  cases o1 <;> (go_wp2; go_ret3; exact ⟨by rw [EF.out, EN.out, List.append_assoc]; rfl, b3⟩)
end Go.Proofs.YtmbfldcmiabccaaGreatDoor

namespace Go.Proofs.YtmbfldcmiabccaaGreatDoor
set_option linter.unusedVariables false
set_option linter.unusedSimpArgs false
open Go.RowKit

namespace V
theorem put_at {l : List Nm} {k : Int} {s : St} {z : Nm} (h : ∀ y ∈ l, y.node < k) (hz : k < z.node) : put (l ++ [z]) k s = l ++ [⟨k, s⟩] ++ [z] := by
  induction l with
  | nil =>
    simp only [List.nil_append, put]
    rw [if_neg (by omega), if_neg (by omega)]; rfl
  | cons y r ih =>
    simp only [List.cons_append, put]
    rw [if_pos (h y (by simp)), ih (fun w hw => h w (by simp [hw]))]
theorem put_snoc {l : List Nm} {k : Int} {s : St} {z : Nm} (h : ∃ y ∈ l, k < y.node) : put (l ++ [z]) k s = put l k s ++ [z] := by
  induction l with
  | nil => obtain ⟨y, hy, _⟩ := h; cases hy
  | cons w r ih =>
    simp only [List.cons_append, put]
    split
    · rename_i hlt
      rw [List.cons_append, ih]
      obtain ⟨y, hy, h2⟩ := h
      rcases List.mem_cons.1 hy with rfl | hy
      · omega
      · exact ⟨y, hy, h2⟩
    · split <;> rfl
end V
/-- how far Put has come over what is left without the endpoint -/
def VPutting (l : List Nm) (node : Int) (s : St) (k : Nat) (p : Bool) (O : List Nm) : Prop :=
  (p = false ∧ O = l.take k ∧ ∀ y ∈ l.take k, y.node < node) ∨ (p = true ∧ O = V.put (l.take k) node s ∧ ∃ y ∈ l.take k, node < y.node)
section
variable {l O : List Nm} {node : Int} {s : St} {k : Nat} {y : Nm}
theorem VPutting.start (l : List Nm) (node : Int) (s : St) : VPutting l node s 0 false [] := Or.inl ⟨rfl, rfl, by simp⟩
theorem VPutting.lower (h : VPutting l node s k false O) (hy : l[k]? = some y) (hlt : y.node < node) : VPutting l node s (k + 1) false (O ++ [y]) := by
  rcases h with ⟨_, rfl, ha⟩ | ⟨e, _⟩
  · refine Or.inl ⟨rfl, (take_more hy).symm, fun z hz => ?_⟩
    rw [take_more hy] at hz
    rcases List.mem_append.1 hz with hz | hz
    · exact ha z hz
    · obtain rfl : z = y := by simpa using hz
      exact hlt
  · cases e
theorem VPutting.more (h : VPutting l node s k true O) (hy : l[k]? = some y) : VPutting l node s (k + 1) true (O ++ [y]) := by
  rcases h with ⟨e, _⟩ | ⟨_, rfl, z, hz, hzx⟩
  · cases e
  · refine Or.inr ⟨rfl, ?_, z, by rw [take_more hy]; simp [hz], hzx⟩
    rw [take_more hy, V.put_snoc ⟨z, hz, hzx⟩]
theorem VPutting.len (h : VPutting l node s k false O) : O.length ≤ k := by
  rcases h with ⟨_, rfl, _⟩ | ⟨e, _⟩
  · rw [List.length_take]; omega
  · cases e
end
theorem nm_at {l : List Nv} {k : Nat} {x : Nv} (h : l[k]? = some x) : (l.map Nv.nm)[k]? = some x.nm := by rw [List.getElem?_map, h]; rfl

end Go.Proofs.YtmbfldcmiabccaaGreatDoor

namespace Go.Proofs.YtmbfldcmiabccaaGreatDoor
set_option linter.unusedVariables false
set_option linter.unusedSimpArgs false
open Go.RowKit

def vgreatB (l : List Nv) : Bool := ((l.take 41).any fun x => E.great x.v.s.apps) || decide (40 < l.length)
set_option maxHeartbeats 2000000 in
theorem rvgreat_any (U : Vw) (w : World) (h : VRd w U) (hn : U.n * 48 ≤ 140737488351232) (hf : ∀ x ∈ U.l, x.v.n * 32 ≤ 140737488351232 ∧ ∀ y ∈ x.v.s.apps, y.val.length ≤ 140737488351232) :
    Calls Tryz.prog 20 #[vval U] w fun e w' => e = .returned (.bool (vgreatB U.l)) ∧ Below w.heap.size w w' := by
  obtain ⟨l, A, n, c⟩ := U
  have hl := h.len
  simp only at hn hl hf
  have HL := Lib.hid hl
  have HF := Lib.hid hf
  clear hl hf
  simp only [vval]
  go_enter Tryz.func20, Tryz.ntmps20
  go_wp2
  go_loopw [3] (fun i wr => ∃ k : Nat, k ≤ n ∧ k ≤ 41 ∧ i = .int .i64 k ∧ ((l.take k).any fun x => E.great x.v.s.apps) = false ∧ Below w.heap.size w wr) (fun i _ => n - (intOf i).toNat)
  case atStart => exact ⟨0, by omega, by omega, rfl, rfl, Below.refl _ _⟩
  case round =>
    obtain ⟨k, hk, hk41, rfl, hno, hbel⟩ := hrel
    have HN := Lib.hid hno
    have hbs := hbel.size
    clear hno
    by_cases hlt : k < n
    · by_cases h41 : k < 41
      · obtain ⟨b, o, x, e1, hb, hx, hsx, c0, c1', c2, c3⟩ := (h.belowH hbel).at hlt
        simp only at e1 hx
        subst e1
        have hk0 : (0 : Int) ≤ (k : Int) := by omega
        have hfx := HF.out x (List.mem_of_getElem? hx)
        have HX := Lib.hid hx
        clear hx
        go_wp2_with fail
        refine (rsgreat_any x.v _ hsx hfx.1 hfx.2).mono ?_
        rintro e w2 ⟨rfl, hb2⟩
        have hbel2 := hbel.trans (hb2.mono hbs)
        clear hb2 c0 c1' c2 c3 hfx hsx
        rcases hg : E.great x.v.s.apps
        · have HG := Lib.hid hg
          clear hg
          go_wp2
          go_roundw
          case rel => exact ⟨k + 1, by omega, by omega, by go_num, by rw [take_more HX.out, List.any_append, HN.out]; simp [HG.out], hbel2⟩
          case measure => simp [intOf]; omega
        · have hall : vgreatB l = true := by
            unfold vgreatB
            have hmem : x ∈ l.take 41 := List.mem_of_getElem? (i := k) (by rw [List.getElem?_take, if_pos h41]; exact HX.out)
            rw [List.any_eq_true.2 ⟨x, hmem, hg⟩]; rfl
          have HA := Lib.hid hall
          clear hg hall
          go_wp2
          go_ret
          exact ⟨ret_bool HA.out.symm, hbel2⟩
      · have hk' : k = 41 := by omega
        have hg : vgreatB l = decide (40 < n) := by unfold vgreatB; rw [← hk', HN.out, HL.out]; rfl
        have HG := Lib.hid hg
        clear hg hk'
        go_wp2
        go_ret
        exact ⟨ret_bool (by rw [HG.out]; exact decide_eq_decide.2 (by omega)), hbel⟩
    · have hg : vgreatB l = decide (40 < n) := by
        unfold vgreatB
        have h1 := HN.out
        have h2 := HL.out
        rw [List.take_of_length_le (by omega)] at h1
        rw [List.take_of_length_le (by omega), h1, h2]; rfl
      have HG := Lib.hid hg
      clear hg
      go_wp2
      go_ret
      exact ⟨ret_bool (by rw [HG.out]; exact decide_eq_decide.2 (by omega)), hbel⟩
end Go.Proofs.YtmbfldcmiabccaaGreatDoor

