/- ZC6 (merged). -/
import Derived.WalkMore
import Derived.Test.YtbioblknhfmelaaJZC2
import Derived.Test.YtbioblknhfmelaaJZC5
namespace Go.Proofs.Ytbioblknhfmelaa
set_option linter.unusedVariables false
set_option linter.unusedSimpArgs false
open Go.RowKit
def zeros12 : List UInt8 := [0, 0, 0, 0, 0, 0, 0, 0, 0, 0, 0, 0]
theorem run_idx3 {a b c v : Value} {j : Nat} (hj : j < 3) (h : (#[a, b, c] : Array Value)[j]? = some v) (w : World) : (Instr.index 51 (.agg #[a, b, c]) (.int .i64 (j : Int))).run Try.prog w = .ok v w := by
  rcases Pk.three hj with rfl | rfl | rfl
  · obtain rfl : a = v := by simpa using h
    kernel_rfl
  · obtain rfl : b = v := by simpa using h
    kernel_rfl
  · obtain rfl : c = v := by simpa using h
    kernel_rfl
theorem qsb_more {l : List Qst} {k : Nat} {q : Qst} {z : List UInt8} (h : l[k]? = some q) : z ++ Pk.qsb (l.take (k + 1)) = z ++ Pk.qsb (l.take k) ++ q.name ++ Pk.bs [q.typ, q.cls] := by
  rw [take_more h]
  unfold Pk.qsb
  rw [List.flatMap_append]
  simp [Pk.qb, Pk.bs]
theorem hdr_eq (a b : Int) (k m0 m1 m2 : Nat) (l : List UInt8) : ([] ++ Pk.bs [a, b, (k : Int), (m0 : Int), (m1 : Int), (m2 : Int)]) ++ (zeros12 ++ l).drop 12 = [] ++ Pk.b2 a.toNat ++ Pk.b2 b.toNat ++ Pk.b2 k ++ Pk.b2 m0 ++ Pk.b2 m1 ++ Pk.b2 m2 ++ l := by
  rw [show (zeros12 ++ l).drop 12 = l from rfl]
  unfold Pk.bs
  simp only [List.flatMap_cons, List.flatMap_nil, Int.toNat_natCast, List.append_nil, List.nil_append, List.append_assoc]
/-- between two records -/
structure BC (p : Pck) (m : Int) (w2 : World) (s1 : Nat) (A : Option Addr) (n c t : Nat) (w : World) : Prop where
  st : Pk.Bst p m t false
  wr : Wr w w2.heap.size A n c (zeros12 ++ (Pk.qsb p.qs ++ Pk.rsb p.qs ((Pk.all p).take t)))
  a1 : Apart A s1
  N : Box w s1 53 (nbx p t)
  b : Below w2.heap.size w2 w
  s : s1 < w.heap.size
set_option maxHeartbeats 8000000 in
set_option maxRecDepth 20000 in
theorem pbuild_any (u : Pv) (m : Int) (w : World) (h : PRd w u) (hm : PMod u) : Calls Try.prog 9 #[pval u, .int .i64 m] w (ByE (Pk.build u.x m).1 (Pk.build u.x m).2 w) := by
  obtain ⟨p, A1, n1, c1, A2, n2, c2, A3, n3, c3, A4, n4, c4⟩ := u
  have RG := fun W h => pright_any (⟨p, A1, n1, c1, A2, n2, c2, A3, n3, c3, A4, n4, c4⟩ : Pv) W h hm
  have PL := fun W => plists_any (⟨p, A1, n1, c1, A2, n2, c2, A3, n3, c3, A4, n4, c4⟩ : Pv) W
  obtain ⟨zi, hzi⟩ : ∃ z, p.id = z := ⟨_, rfl⟩
  obtain ⟨zf, hzf⟩ : ∃ z, p.flags = z := ⟨_, rfl⟩
  simp only [pval, zls, hzi, hzf] at RG PL ⊢
  obtain ⟨h1, h2, h3, h4⟩ := h
  simp only at h1 h2 h3 h4
  have ZI := Lib.hid hzi
  have ZF := Lib.hid hzf
  have HM := Lib.hid hm
  have b := (Below.refl w.heap.size w).alloc (Nat.le_refl _) (.cells #[.int .i64 zi, .int .i64 zf, .slice A1 n1 c1, .slice A2 n2 c2, .slice A3 n3 c3, .slice A4 n4 c4] 25)
  have X := Box.new w #[.int .i64 zi, .int .i64 zf, .slice A1 n1 c1, .slice A2 n2 c2, .slice A3 n3 c3, .slice A4 n4 c4] 25
  replace h1 := h1.belowH b
  replace h2 := h2.belowH b
  replace h3 := h3.belowH b
  replace h4 := h4.belowH b
  have x0 := X.at 0 rfl
  have x1 := X.at 1 rfl
  have x2 := X.at 2 rfl
  have x3 := X.at 3 rfl
  have x4 := X.at 4 rfl
  have x5 := X.at 5 rfl
  have hs : (w.alloc (.cells #[.int .i64 zi, .int .i64 zf, .slice A1 n1 c1, .slice A2 n2 c2, .slice A3 n3 c3, .slice A4 n4 c4] 25)).heap.size = w.heap.size + 1 := by simp
  clear hzi hzf hm
  go_enter Try.func9, Try.ntmps9
  go_wp2_with fail
  generalize (w.alloc (.cells #[.int .i64 zi, .int .i64 zf, .slice A1 n1 c1, .slice A2 n2 c2, .slice A3 n3 c3, .slice A4 n4 c4] 25)) = w1 at *
  go_step3
  go_wp2_with fail
  refine (RG w1 ⟨h1, h2, h3, h4⟩).mono ?_
  clear RG
  rintro e w2 ⟨rfl, b2⟩
  by_cases hr : Pk.right p
  rotate_left
  · have EE : Hid (Pk.build p m = ([], 1)) := Lib.hid (Pk.build_no hr)
    have HR := Lib.hid (decide_eq_false hr)
    clear hr
    rw [HR.out]
    go_wp2
    go_ret2
    rw [EE.out]
    exact ⟨⟨none, 0, rfl, Rd.zero _ _ _ _, Nat.le_refl _, by omega⟩, b.trans (b2.mono (by omega))⟩
  rw [decide_eq_true hr]
  have L1 := h1.lenQ
  have RI : Hid (Pk.right p) := Lib.hid hr
  have hn1 : n1 ≤ 100 := by have := hr.2.2.1.1; omega
  have LN := Lib.hid L1
  clear hr L1 x0 x1 x2 x3 x4 x5
  replace X := X.belowH b2
  replace h1 := h1.belowH b2
  replace h2 := h2.belowH b2
  replace h3 := h3.belowH b2
  replace h4 := h4.belowH b2
  replace b := b.trans (b2.mono (by omega))
  have hs2 : w.heap.size + 1 ≤ w2.heap.size := by have := b2.size; omega
  clear b2 hs w1
  have WZ : Wr (w2.alloc (.cells #[.int .u8 0, .int .u8 0, .int .u8 0, .int .u8 0, .int .u8 0, .int .u8 0, .int .u8 0, .int .u8 0, .int .u8 0, .int .u8 0, .int .u8 0, .int .u8 0] 5)) w2.heap.size (some ⟨w2.heap.size, 0, none⟩) 12 12 zeros12 := Wr.lit w2 zeros12 (by decide)
  have bz := (Below.refl w2.heap.size w2).alloc (Nat.le_refl _) (.cells #[.int .u8 0, .int .u8 0, .int .u8 0, .int .u8 0, .int .u8 0, .int .u8 0, .int .u8 0, .int .u8 0, .int .u8 0, .int .u8 0, .int .u8 0, .int .u8 0] 5)
  have MK : (Instr.makeSlice 28 (.int .i64 12) (.int .i64 12)).run Try.prog w2 = .ok (.slice (some ⟨w2.heap.size, 0, none⟩) 12 12) (w2.alloc (.cells #[.int .u8 0, .int .u8 0, .int .u8 0, .int .u8 0, .int .u8 0, .int .u8 0, .int .u8 0, .int .u8 0, .int .u8 0, .int .u8 0, .int .u8 0, .int .u8 0] 5)) := by kernel_rfl
  have X0 := X.belowH bz
  have x2 := X0.at 2 rfl
  go_wp2_with fail
  generalize w2.alloc (.cells #[.int .u8 0, .int .u8 0, .int .u8 0, .int .u8 0, .int .u8 0, .int .u8 0, .int .u8 0, .int .u8 0, .int .u8 0, .int .u8 0, .int .u8 0, .int .u8 0] 5) = w3 at *
  clear MK x2
  go_loopw [6, 23] (fun v i wr => ∃ (k n c : Nat) (A : Option Addr), k ≤ n1 ∧ v = .slice A n c ∧ i = .int .i64 (k : Int) ∧ Wr wr w2.heap.size A n c (zeros12 ++ Pk.qsb (p.qs.take k)) ∧ Below w2.heap.size w2 wr) (fun _ i _ => n1 - (intOf i).toNat)
  case atStart => exact ⟨0, 12, 12, _, Nat.zero_le _, rfl, rfl, WZ, bz⟩
  case round =>
    clear X0 WZ bz
    obtain ⟨k, n, c, A, hk, rfl, rfl, hw, hb⟩ := hrel
    have X1 := X.belowH hb
    have g1 := h1.belowH hb
    have x2 := X1.at 2 rfl
    have hbs := hb.size
    have QL : Hid (∀ k, ((Pk.qsb (p.qs.take k)).length) ≤ 25900) := Lib.hid fun k => by
      have h1 := Pk.qsb_le (l := p.qs.take k) fun q hq => RI.out.2.2.1.2 q (List.mem_of_mem_take hq)
      have h2 : (p.qs.take k).length ≤ 100 := by rw [List.length_take]; have := RI.out.2.2.1.1; omega
      omega
    have hnl : Hid (n = 12 + (Pk.qsb (p.qs.take k)).length) := Lib.hid (by have := hw.1; rw [List.length_append] at this; have e : zeros12.length = 12 := rfl; omega)
    have hn : n ≤ 25912 := by have := QL.out k; have := hnl.out; omega
    by_cases hlt : k < n1
    · obtain ⟨bq, oq, q, rfl, hbq, hq, q0, q1, q2⟩ := g1.atQ hlt
      have HQ := Lib.hid hq
      have HQR : Hid (Pk.rightQ q) := Lib.hid (RI.out.2.2.1.2 q (List.mem_of_getElem? hq))
      have ql : q.name.length ≤ 255 := Pk.name_le HQR.out.1
      have VS : Hid (∀ v ∈ [q.typ, q.cls], 0 ≤ v ∧ v ≤ 4294967295) := Lib.hid (by
        intro v hv
        have a1 := HQR.out.2.1.1
        have a2 := HQR.out.2.1.2
        have a3 := HQR.out.2.2.1
        have a4 := HQR.out.2.2.2
        simp only [List.mem_cons, List.not_mem_nil, or_false] at hv
        rcases hv with rfl | rfl <;> omega)
      have hk0 : (0 : Int) ≤ (k : Int) := by omega
      clear hq
      have QB := Box.new wr #[.string (strB q.name), .int .i64 q.typ, .int .i64 q.cls] 48
      have hwa := hw.alloc (.cells #[.string (strB q.name), .int .i64 q.typ, .int .i64 q.cls] 48)
      have hba := hb.alloc hbs (.cells #[.string (strB q.name), .int .i64 q.typ, .int .i64 q.cls] 48)
      have hsa : wr.heap.size < (wr.alloc (.cells #[.string (strB q.name), .int .i64 q.typ, .int .i64 q.cls] 48)).heap.size := by simp
      have hap : Apart A wr.heap.size := hw.apart
      clear X1 g1
      go_wp2_with fail
      generalize wr.alloc (.cells #[.string (strB q.name), .int .i64 q.typ, .int .i64 q.cls] 48) = wa at *
      clear hw hb x2 q0 q1 q2
      replace hwa : Wr wa.drew w2.heap.size A n c _ := hwa
      replace hba : Below w2.heap.size w2 wa.drew := hba.drew
      replace hsa : wr.heap.size < wa.drew.heap.size := hsa
      replace QB : Box wa.drew _ _ _ := QB
      have y0 := QB.at 0 rfl
      have y1 := QB.at 1 rfl
      have y2 := QB.at 2 rfl
      refine wp_region_held_drew (S := (fun w' => w'.cell? ⟨wr.heap.size, 0, none⟩ = some (.string (strB q.name)) ∧ w'.cell? ⟨wr.heap.size, 1, none⟩ = some (.int .i64 q.typ) ∧ w'.cell? ⟨wr.heap.size, 2, none⟩ = some (.int .i64 q.cls))) (by kernel_rfl) (by exact ⟨y0, y1, y2⟩) (fun hHeld0 => ?_)
      generalize wa.drew = wd at *
      refine tk 0 27 rfl hHeld0 ?_
      refine tk 1 28 rfl hHeld0 ?_
      refine tk 2 29 rfl hHeld0 ?_
      refine tk 4 31 rfl hHeld0 ?_
      refine tk 5 32 rfl hHeld0 ?_
      refine tk 6 33 rfl hHeld0 ?_
      refine tk 7 34 rfl hHeld0 ?_
      refine wpAnyH_ready (rs := [3, 8]) (by kernel_rfl) (by simp) (AllReadyH.cons (o := ⟨some 30, _, _, _, _, _⟩) rfl (fun K hK => ?_) (AllReadyH.cons (o := ⟨some 35, _, _, _, _, _⟩) rfl (fun K hK => ?_) AllReadyH.nil))
      · skip
        refine wrK_str_step rfl (.tmp 27) (.tmp 29) rfl (by rfl) (h := hwa) (by omega) (by rfl) (by omega) ?_
        rintro A5 c5 w5 h5
        have ap5 := h5.1.apart hap (by omega)
        have Q5 := h5.1.box' QB hap
        have b5 := h5.1.rows hwa hba (Nat.le_refl _) (by omega)
        have hs5 := h5.1.2.1.size
        clear y0 y1 y2; have y0 := Q5.at 0 rfl; have y1 := Q5.at 1 rfl; have y2 := Q5.at 2 rfl
        go_simp
        refine hK.out _ _ (by exact ⟨y0, y1, y2⟩) (fun hHeld1 => ?_)
        clear hK hHeld0 K
        try simp only [Act.put, sA, sB, sC]
        refine wpAnyH_ready (rs := [8]) (by kernel_rfl) (by simp) (AllReadyH.cons (o := ⟨some 35, _, _, _, _, _⟩) rfl (fun K hK => ?_) AllReadyH.nil)
        have XI := Box.new w5 #[.int .i64 q.typ, .int .i64 q.cls] 3
        have api : Apart A5 w5.heap.size := (h5.1.1).apart
        have hWb := (h5.1.1).alloc (.cells #[.int .i64 q.typ, .int .i64 q.cls] 3)
        have bb := (b5).alloc (by omega) (.cells #[.int .i64 q.typ, .int .i64 q.cls] 3)
        have Qb := (Q5).alloc (.cells #[.int .i64 q.typ, .int .i64 q.cls] 3)
        have hsb : w5.heap.size < (w5.alloc (.cells #[.int .i64 q.typ, .int .i64 q.cls] 3)).heap.size := by simp
        clear y0 y1 y2; have y0 := Qb.at 0 rfl; have y1 := Qb.at 1 rfl; have y2 := Qb.at 2 rfl
        go_simp
        go_simp
        refine hK.out _ _ (by exact ⟨y0, y1, y2⟩) (fun hHeld2 => ?_)
        clear hK hHeld1 K
        try simp only [Act.put, sA, sB, sC]
        generalize w5.alloc (.cells #[.int .i64 q.typ, .int .i64 q.cls] 3) = wb at *
        refine wpAnyH_ready (rs := [9]) (by kernel_rfl) (by simp) (AllReadyH.cons (o := ⟨some 36, _, _, _, _, _⟩) rfl (fun K hK => ?_) AllReadyH.nil)
        go_simp
        refine (ptwo_any A5 _ c5 w2.heap.size _ [q.typ, q.cls] w5.heap.size 2 2 _ hWb (by omega) (by exact XI) api rfl (by omega) (by omega) VS.out).mono ?_
        rintro e w6 ⟨A6, c6, rfl, h6⟩
        have b6 := h6.1.rows (hWb) bb (Nat.le_refl _) (by omega)
        have Q6 := h6.1.box' Qb ap5
        clear y0 y1 y2; have y0 := Q6.at 0 rfl; have y1 := Q6.at 1 rfl; have y2 := Q6.at 2 rfl
        have HW := h6.1.1
        go_simp
        refine hK.out _ _ (by exact ⟨y0, y1, y2⟩) (fun hHeld3 => ?_)
        clear hK hHeld2 K
        try simp only [Act.put, sA, sB, sC]
        refine tk 10 6 rfl hHeld3 ?_
        refine wpAnyH_done (by kernel_rfl) ?_ _
        have hkk : k + 1 ≤ n1 := by omega
        clear h5 h6 ap5 Q5 b5 XI api hWb bb Qb Q6 y0 y1 y2 hap hwa hba QB VS ql
        go_wp2
        go_roundw
        case rel =>
          refine ⟨k + 1, _, c6, A6, by omega, rfl, by go_num, ?_, b6⟩
          rw [qsb_more HQ.out]
          exact HW
        case measure => simp [intOf]; omega
      · skip
        have XI := Box.new wd #[.int .i64 q.typ, .int .i64 q.cls] 3
        have api : Apart A wd.heap.size := (hwa).apart
        have hWb := (hwa).alloc (.cells #[.int .i64 q.typ, .int .i64 q.cls] 3)
        have bb := (hba).alloc (by omega) (.cells #[.int .i64 q.typ, .int .i64 q.cls] 3)
        have Qb := (QB).alloc (.cells #[.int .i64 q.typ, .int .i64 q.cls] 3)
        have hsb : wd.heap.size < (wd.alloc (.cells #[.int .i64 q.typ, .int .i64 q.cls] 3)).heap.size := by simp
        clear y0 y1 y2; have y0 := Qb.at 0 rfl; have y1 := Qb.at 1 rfl; have y2 := Qb.at 2 rfl
        go_simp
        go_simp
        refine hK.out _ _ (by exact ⟨y0, y1, y2⟩) (fun hHeld1 => ?_)
        clear hK hHeld0 K
        try simp only [Act.put, sA, sB, sC]
        generalize wd.alloc (.cells #[.int .i64 q.typ, .int .i64 q.cls] 3) = wb at *
        refine wpAnyH_ready (rs := [3]) (by kernel_rfl) (by simp) (AllReadyH.cons (o := ⟨some 30, _, _, _, _, _⟩) rfl (fun K hK => ?_) AllReadyH.nil)
        refine wrK_str_step rfl (.tmp 27) (.tmp 29) rfl (by rfl) (h := hWb) (by omega) (by rfl) (by omega) ?_
        rintro A5 c5 w5 h5
        have ap5 := h5.1.apart hap (by omega)
        have Q5 := h5.1.box' Qb hap
        have b5 := h5.1.rows hWb bb (Nat.le_refl _) (by omega)
        have hs5 := h5.1.2.1.size
        clear y0 y1 y2; have y0 := Q5.at 0 rfl; have y1 := Q5.at 1 rfl; have y2 := Q5.at 2 rfl
        have XIa := h5.1.box' XI api
        have apia := h5.1.apart api (by omega)
        go_simp
        refine hK.out _ _ (by exact ⟨y0, y1, y2⟩) (fun hHeld2 => ?_)
        clear hK hHeld1 K
        try simp only [Act.put, sA, sB, sC]
        refine wpAnyH_ready (rs := [9]) (by kernel_rfl) (by simp) (AllReadyH.cons (o := ⟨some 36, _, _, _, _, _⟩) rfl (fun K hK => ?_) AllReadyH.nil)
        go_simp
        refine (ptwo_any A5 _ c5 w2.heap.size _ [q.typ, q.cls] wd.heap.size 2 2 _ h5.1.1 (by omega) (by exact XIa) apia rfl (by omega) (by omega) VS.out).mono ?_
        rintro e w6 ⟨A6, c6, rfl, h6⟩
        have b6 := h6.1.rows (h5.1.1) b5 (Nat.le_refl _) (by omega)
        have Q6 := h6.1.box' Q5 ap5
        clear y0 y1 y2; have y0 := Q6.at 0 rfl; have y1 := Q6.at 1 rfl; have y2 := Q6.at 2 rfl
        have HW := h6.1.1
        go_simp
        refine hK.out _ _ (by exact ⟨y0, y1, y2⟩) (fun hHeld3 => ?_)
        clear hK hHeld2 K
        try simp only [Act.put, sA, sB, sC]
        refine tk 10 6 rfl hHeld3 ?_
        refine wpAnyH_done (by kernel_rfl) ?_ _
        have hkk : k + 1 ≤ n1 := by omega
        clear h5 h6 ap5 Q5 b5 XI api hWb bb Qb Q6 y0 y1 y2 hap hwa hba QB VS ql
        go_wp2
        go_roundw
        case rel =>
          refine ⟨k + 1, _, c6, A6, by omega, rfl, by go_num, ?_, b6⟩
          rw [qsb_more HQ.out]
          exact HW
        case measure => simp [intOf]; omega
    · obtain rfl : k = n1 := by omega
      have hnq : Hid (n = 12 + (Pk.qsb p.qs).length) := Lib.hid (by have := hnl.out; rwa [List.take_of_length_le (by have := LN.out; omega)] at this)
      rw [List.take_of_length_le (by have := LN.out; omega)] at hw
      clear hk hlt hnl
      by_cases hlong : m < (n : Int)
      · have EE : Hid (Pk.build p m = ([], 4)) := Lib.hid (Pk.build_long RI.out (by have := hnq.out; omega))
        have d1 : decide (m < (n : Int)) = true := decide_eq_true hlong
        go_wp2
        go_ret2
        rw [EE.out]
        exact ⟨⟨none, 0, rfl, Rd.zero _ _ _ _, Nat.le_refl _, by omega⟩, b.trans (hb.mono (by omega))⟩
      have EE : Hid (Pk.build p m = (Pk.whole (Pk.kept p m), 0)) := Lib.hid (Pk.build_is RI.out (by have := hnq.out; omega))
      have BS : Hid (Pk.Bst p m 0 false) := Lib.hid (Pk.Bst.start (by have := hnq.out; omega))
      have d1 : decide (m < (n : Int)) = false := decide_eq_false hlong
      have X2 := X1.alloc (.cells #[.int .i64 0, .int .i64 0, .int .i64 0] 53)
      have NBX := Box.new wr #[.int .i64 0, .int .i64 0, .int .i64 0] 53
      have hwz := hw.alloc (.cells #[.int .i64 0, .int .i64 0, .int .i64 0] 53)
      have hbz := hb.alloc hbs (.cells #[.int .i64 0, .int .i64 0, .int .i64 0] 53)
      have hsz : wr.heap.size < (wr.alloc (.cells #[.int .i64 0, .int .i64 0, .int .i64 0] 53)).heap.size := by simp
      have hap1 : Apart A wr.heap.size := hw.apart
      have x0 := X2.at 0 rfl
      have x1 := X2.at 1 rfl
      have x2' := X2.at 2 rfl
      have x3 := X2.at 3 rfl
      have x4 := X2.at 4 rfl
      have x5 := X2.at 5 rfl
      have z1 := X1.at 1 rfl
      go_wp2_with fail
      generalize wr.alloc (.cells #[.int .i64 0, .int .i64 0, .int .i64 0] 53) = wz at *
      go_step3
      go_wp2_with fail
      refine (PL wz).mono ?_
      clear PL
      rintro e w5 ⟨rfl, b5⟩
      have hszz := hbz.size
      have hs5 := b5.size
      have HS : BC p m w2 wr.heap.size A n c 0 w5 := ⟨BS.out, by have h9 := hwz.belowH b5; simpa [Pk.rsb] using h9, hap1, by rw [nbx_zero]; exact NBX.below b5 hsz, hbz.trans (b5.mono hszz), by omega⟩
      have HSW := Lib.hid hbs
      clear hwz NBX hbz b5 hap1 hs5 hszz BS X1 g1 X2 hw hb x0 x1 x2 x2' x3 x4 x5 z1 d1 hlong hsz hn hnq
      generalize wr.heap.size = s1 at *
      clear hbs
      go_wp2
      go_loopw [6, 9, 46] (fun v f i wr' => ∃ (n' c' j : Nat) (A' : Option Addr), v = .slice A' n' c' ∧ f = .int .i64 zf ∧ i = .int .i64 (j : Int) ∧ j ≤ 3 ∧ BC p m w2 s1 A' n' c' (Pk.off p j) wr') (fun _ _ i _ => 3 - (intOf i).toNat)
      case atStart => exact ⟨n, c, 0, A, rfl, rfl, rfl, by omega, HS⟩
      case round =>
        clear HS
        obtain ⟨n', c', j, A', rfl, rfl, rfl, hj, hS⟩ := hrel
        have hn12 : 12 ≤ n' := by have := hS.wr.1; rw [List.length_append] at this; have e : zeros12.length = 12 := rfl; omega
        by_cases hj3 : j < 3
        rotate_left
        · obtain rfl : j = 3 := by omega
          have ht := Pk.off_all p
          generalize Pk.off p 3 = t at *
          have hends := hS.st.ends (fun _ => ht)
          have EN : Hid (Pk.kept p m = Pk.first p t ∧ (Pk.first p t).flags = zf) := Lib.hid ⟨hends.1, by rw [hends.2, ZF.out]; rfl⟩
          have FB : Pk.two zf := by rw [← ZF.out]; exact RI.out.2.1
          have Wt := hS.wr
          have Nt := hS.N
          have bt := hS.b
          have Xt := X.belowH bt
          generalize wr = wt at *
          clear hends ht hj hS
          have hNL := Nt.lt
          have zib : Pk.two zi := by rw [← ZI.out]; exact RI.out.1
          obtain ⟨m0, hm0⟩ : ∃ x, Pk.num p t 0 = x := ⟨_, rfl⟩
          obtain ⟨m1, hm1⟩ : ∃ x, Pk.num p t 1 = x := ⟨_, rfl⟩
          obtain ⟨m2, hm2⟩ : ∃ x, Pk.num p t 2 = x := ⟨_, rfl⟩
          have mb0 : m0 ≤ 100 := by have := Pk.num_le p t (j := 0) (by omega); have h := RI.out.2.2.2.1.1; rw [hm0] at this; have : m0 ≤ p.an.length := this; omega
          have mb1 : m1 ≤ 100 := by have := Pk.num_le p t (j := 1) (by omega); have h := RI.out.2.2.2.2.1.1; rw [hm1] at this; have : m1 ≤ p.au.length := this; omega
          have mb2 : m2 ≤ 100 := by have := Pk.num_le p t (j := 2) (by omega); have h := RI.out.2.2.2.2.2.1; rw [hm2] at this; have : m2 ≤ p.mo.length := this; omega
          have VS : Hid (∀ v ∈ [zi, zf, (k : Int), (m0 : Int), (m1 : Int), (m2 : Int)], 0 ≤ v ∧ v ≤ 4294967295) := Lib.hid (by
            intro v hv
            unfold Pk.two at zib FB
            simp only [List.mem_cons, List.not_mem_nil, or_false] at hv
            rcases hv with rfl | rfl | rfl | rfl | rfl | rfl <;> omega)
          have EQ : Hid (Pk.whole (Pk.kept p m) = ([] ++ Pk.bs [zi, zf, (k : Int), (m0 : Int), (m1 : Int), (m2 : Int)]) ++ (zeros12 ++ (Pk.qsb p.qs ++ Pk.rsb p.qs ((Pk.all p).take t))).drop 12) := Lib.hid (by
            rw [EN.out.1, Pk.whole_laid, EN.out.2, ZI.out, LN.out, hm0, hm1, hm2]
            exact (hdr_eq _ _ _ _ _ _ _).symm)
          unfold nbx at Nt
          rw [hm0, hm1, hm2] at Nt
          clear hm0 hm1 hm2 mb0 mb1 mb2 zib FB
          have x0 := Xt.at 0 rfl
          have x2 := Xt.at 2 rfl
          have z0 := Nt.at 0 rfl
          have z1 := Nt.at 1 rfl
          have z2 := Nt.at 2 rfl
          have XI := Box.new wt #[.int .i64 zi, .int .i64 zf, .int .i64 (k : Int), .int .i64 (m0 : Int), .int .i64 (m1 : Int), .int .i64 (m2 : Int)] 3
          have Wl := Wt.alloc (.cells #[.int .i64 zi, .int .i64 zf, .int .i64 (k : Int), .int .i64 (m0 : Int), .int .i64 (m1 : Int), .int .i64 (m2 : Int)] 3)
          have bl := bt.alloc bt.size (.cells #[.int .i64 zi, .int .i64 zf, .int .i64 (k : Int), .int .i64 (m0 : Int), .int .i64 (m1 : Int), .int .i64 (m2 : Int)] 3)
          have hbl := bl.size
          go_wp2_with fail
          generalize wt.alloc (.cells #[.int .i64 zi, .int .i64 zf, .int .i64 (k : Int), .int .i64 (m0 : Int), .int .i64 (m1 : Int), .int .i64 (m2 : Int)] 3) = wl at *
          refine (ptwo_any none 0 0 w2.heap.size [] [zi, zf, (k : Int), (m0 : Int), (m1 : Int), (m2 : Int)] wt.heap.size 6 6 wl (Wr.nil _ _) hbl (by exact XI) (apart_none _) rfl (by omega) (by omega) VS.out).mono ?_
          rintro e wh ⟨AH, cH, rfl, hH⟩
          obtain ⟨Sh, _⟩ := hH.1.keepW Wl (fun g _ => apart_none g)
          have bh := hH.1.rows (Wr.nil _ _) bl (Nat.le_refl _) hbl
          have hhs := bh.size
          clear x0 x2 z0 z1 z2 XI Wl bl hbl VS Xt Nt Wt bt
          obtain ⟨wc, CP, hc⟩ := run_wr_copy (m := 12) (c2 := cH) 3 Sh hH.1.1.rd (by omega) hn12
          go_wp2
          clear CP
          go_ret2
          have bc := hc.rows Sh bh (Nat.le_refl _) hhs
          have hlen := hc.1.1
          have hcw := hc.1
          rw [← EQ.out] at hlen hcw
          rw [EE.out]
          refine ⟨⟨A', c', ?_, ?_, ?_, hcw.2.2.1⟩, b.trans (bc.mono (by omega))⟩
          · show Ending.returned (.tuple #[.slice A' _ c', .int .i64 0]) = Ending.returned (.tuple #[.slice A' (Pk.whole (Pk.kept p m)).length c', .int .i64 0])
            rw [hlen]
          · show Rd wc wc.heap.size 1 A' (Pk.whole (Pk.kept p m)).length (U (Pk.whole (Pk.kept p m)))
            have hrd := hcw.rd
            rw [hlen]
            exact hrd
          · show (Pk.whole (Pk.kept p m)).length ≤ c'
            rw [hlen]
            exact hcw.2.1
        obtain ⟨Aj, nj, cj, hlb, hrj⟩ := cell_lst (c2 := c2) (c3 := c3) (c4 := c4) h2 h3 h4 hj3
        have IX := run_idx3 hj3 hlb
        have hjl : Hid ((Pk.lst p j).length = nj) := Lib.hid hrj.lenR
        have hnj : nj ≤ 100 := by have := (Pk.lst_right RI.out hj3).1; have := hjl.out; omega
        have hj0 : (0 : Int) ≤ (j : Int) := by omega
        have hj3' : (j : Int) < 3 := by omega
        clear hlb
        go_wp2
        clear IX
        go_loopw [6, 9, 52] (fun v f i wr' => ∃ (n' c' kk : Nat) (A' : Option Addr), v = .slice A' n' c' ∧ f = .int .i64 zf ∧ i = .int .i64 (kk : Int) ∧ kk ≤ nj ∧ BC p m w2 s1 A' n' c' (Pk.off p j + kk) wr') (fun _ _ i _ => nj - (intOf i).toNat)
        case atStart => exact ⟨n', c', 0, A', rfl, rfl, rfl, by omega, hS⟩
        case round =>
          clear hS hn12
          obtain ⟨n', c', kk, A', rfl, rfl, rfl, hkk, hS⟩ := hrel
          have hn12 : 12 ≤ n' := by have := hS.wr.1; rw [List.length_append] at this; have e : zeros12.length = 12 := rfl; omega
          by_cases hk : kk < nj
          rotate_left
          · obtain rfl : kk = nj := by omega
            go_wp2
            go_roundw
            case rel => exact ⟨n', c', j + 1, A', rfl, rfl, by go_num, by omega, by rw [Pk.off_next p hj3, hjl.out]; exact hS⟩
            case measure => simp [intOf]; omega
          obtain ⟨t, ht⟩ : ∃ t, Pk.off p j + kk = t := ⟨_, rfl⟩
          rw [ht] at hS
          have gj := hrj.belowH hS.b
          obtain ⟨bq, oq, r, rfl, hbq, hq, r0, r1, r2, r3, r4⟩ := gj.atR hk
          have HQ := Lib.hid hq
          have HA : Hid ((Pk.all p)[t]? = some r) := Lib.hid (by rw [← ht]; exact Pk.all_at hj3 hq)
          have HT := Lib.hid ht
          have RR : Hid (Pk.rightR r) := Lib.hid ((Pk.lst_right RI.out hj3).2 r (List.mem_of_getElem? hq))
          have rn : Hid (r.name.length ≤ 100000) := Lib.hid (by have := Pk.name_le RR.out.1; omega)
          have hsw := hS.b.size
          have ba : Below wr.heap.size wr (wr.alloc (.cells #[.string (strB r.name), .int .i64 r.typ, .int .i64 r.cls, .int .i64 r.ttl, .string (strB r.data)] 50)) := (Below.refl _ _).alloc (Nat.le_refl _) _
          have Wa := hS.wr.alloc (.cells #[.string (strB r.name), .int .i64 r.typ, .int .i64 r.cls, .int .i64 r.ttl, .string (strB r.data)] 50)
          have Xa := (X.belowH hS.b).belowH ba
          have g1 := (h1.belowH hS.b).belowH ba
          have Na := hS.N.belowH ba
          have bw := hS.b.alloc hsw (.cells #[.string (strB r.name), .int .i64 r.typ, .int .i64 r.cls, .int .i64 r.ttl, .string (strB r.data)] 50)
          have hsa := bw.size
          have x2 := Xa.at 2 rfl
          have hnn : n' = 12 + (Pk.qsb p.qs).length + (Pk.rsb p.qs ((Pk.all p).take t)).length := by have := hS.wr.1; rw [List.length_append, List.length_append] at this; have e : zeros12.length = 12 := rfl; omega
          have hn' : n' ≤ 415912 := by
            have h1 := Pk.rsb_taken_le RI.out t
            have h2 := QL.out p.qs.length
            rw [List.take_length] at h2
            omega
          have hn1000 : Hid (n' ≤ 1000000) := Lib.hid (by omega)
          have HNN := Lib.hid hnn
          have hkk0 : (0 : Int) ≤ (kk : Int) := by omega
          have hn41 : Hid (k ≤ 4398046511104) := Lib.hid (by omega)
          clear hq ht hnn gj hkk hn'
          go_wp2_with fail
          generalize wr.alloc (.cells #[.string (strB r.name), .int .i64 r.typ, .int .i64 r.cls, .int .i64 r.ttl, .string (strB r.data)] 50) = wa at *
          refine (ptell_any A' n' c' w2.heap.size _ r p.qs A1 k c1 wa Wa hsa hn1000.out g1 hn41.out HM.out.2.1 RR.out rn.out).mono ?_
          rintro e w8 ⟨A8, c8, rfl, h8⟩
          have Wold := h8.2.2.2 _ _ _ _ (Nat.le_refl _) Wa
          have Wnew := h8.1.1
          have b8 := h8.1.rows Wa bw (Nat.le_refl _) hsa
          have N8 := h8.1.box' Na hS.a1
          have a8 := h8.1.apart hS.a1 (by have := hS.s; have := ba.size; omega)
          have hs8 := b8.size
          have X8 := X.belowH b8
          have hN8 := N8.lt
          obtain ⟨rl, hrl⟩ : ∃ x, (Pk.rb p.qs r).length = x := ⟨_, rfl⟩
          rw [hrl] at Wnew ⊢
          have HRL := Lib.hid hrl
          have hfl : ∀ x : Int, x < (n' : Int) + (rl : Int) ↔ x < 12 + ((Pk.qsb p.qs).length : Int) + ((Pk.rsb p.qs ((Pk.all p).take t)).length : Int) + ((Pk.rb p.qs r).length : Int) := fun x => by have := HNN.out; have := HRL.out; omega
          have HFL := Lib.hid hfl
          clear hrl hfl h8 x2 r0 r1 r2 r3 r4 g1 Xa Na Wa bw ba hsa hbq hn12
          by_cases hfit : m < ((n' + rl : Nat) : Int)
          · have d1 : decide (m < (n' : Int) + (rl : Int)) = true := decide_eq_true (by omega)
            have ST : Hid (Pk.Bst p m t true) := Lib.hid (hS.st.cut HA.out ((HFL.out m).1 (by omega)))
            have OR := or_flag (f := zf) (by rw [← ZF.out]; exact RI.out.2.1)
            have hends := ST.out.ends (fun h => by cases h)
            obtain ⟨ff, hff⟩ : ∃ x, Pk.cutFlag zf = x := ⟨_, rfl⟩
            rw [hff] at OR
            have EN : Hid (Pk.kept p m = Pk.first p t ∧ (Pk.first p t).flags = ff) := Lib.hid ⟨hends.1, by rw [hends.2, ZF.out, ← hff]; rfl⟩
            have FB : Pk.two ff := by rw [← EN.out.2]; exact (Pk.right_first RI.out t).2.1
            have Wt := Wold
            have Nt := N8
            have bt := b8
            have Xt := X8
            have hn12 : 12 ≤ n' := by have := HNN.out; omega
            have FBH := Lib.hid FB
            clear hends hff FB hS Wnew Wold N8 b8 X8 a8 hfit ST
            generalize w8 = wt at *
            have FB := FBH.out
            have hNL := Nt.lt
            have zib : Pk.two zi := by rw [← ZI.out]; exact RI.out.1
            obtain ⟨m0, hm0⟩ : ∃ x, Pk.num p t 0 = x := ⟨_, rfl⟩
            obtain ⟨m1, hm1⟩ : ∃ x, Pk.num p t 1 = x := ⟨_, rfl⟩
            obtain ⟨m2, hm2⟩ : ∃ x, Pk.num p t 2 = x := ⟨_, rfl⟩
            have mb0 : m0 ≤ 100 := by have := Pk.num_le p t (j := 0) (by omega); have h := RI.out.2.2.2.1.1; rw [hm0] at this; have : m0 ≤ p.an.length := this; omega
            have mb1 : m1 ≤ 100 := by have := Pk.num_le p t (j := 1) (by omega); have h := RI.out.2.2.2.2.1.1; rw [hm1] at this; have : m1 ≤ p.au.length := this; omega
            have mb2 : m2 ≤ 100 := by have := Pk.num_le p t (j := 2) (by omega); have h := RI.out.2.2.2.2.2.1; rw [hm2] at this; have : m2 ≤ p.mo.length := this; omega
            have VS : Hid (∀ v ∈ [zi, ff, (k : Int), (m0 : Int), (m1 : Int), (m2 : Int)], 0 ≤ v ∧ v ≤ 4294967295) := Lib.hid (by
              intro v hv
              unfold Pk.two at zib FB
              simp only [List.mem_cons, List.not_mem_nil, or_false] at hv
              rcases hv with rfl | rfl | rfl | rfl | rfl | rfl <;> omega)
            have EQ : Hid (Pk.whole (Pk.kept p m) = ([] ++ Pk.bs [zi, ff, (k : Int), (m0 : Int), (m1 : Int), (m2 : Int)]) ++ (zeros12 ++ (Pk.qsb p.qs ++ Pk.rsb p.qs ((Pk.all p).take t))).drop 12) := Lib.hid (by
              rw [EN.out.1, Pk.whole_laid, EN.out.2, ZI.out, LN.out, hm0, hm1, hm2]
              exact (hdr_eq _ _ _ _ _ _ _).symm)
            unfold nbx at Nt
            rw [hm0, hm1, hm2] at Nt
            clear hm0 hm1 hm2 mb0 mb1 mb2 zib FB
            have x0 := Xt.at 0 rfl
            have x2 := Xt.at 2 rfl
            have z0 := Nt.at 0 rfl
            have z1 := Nt.at 1 rfl
            have z2 := Nt.at 2 rfl
            have XI := Box.new wt #[.int .i64 zi, .int .i64 ff, .int .i64 (k : Int), .int .i64 (m0 : Int), .int .i64 (m1 : Int), .int .i64 (m2 : Int)] 3
            have Wl := Wt.alloc (.cells #[.int .i64 zi, .int .i64 ff, .int .i64 (k : Int), .int .i64 (m0 : Int), .int .i64 (m1 : Int), .int .i64 (m2 : Int)] 3)
            have bl := bt.alloc bt.size (.cells #[.int .i64 zi, .int .i64 ff, .int .i64 (k : Int), .int .i64 (m0 : Int), .int .i64 (m1 : Int), .int .i64 (m2 : Int)] 3)
            have hbl := bl.size
            go_wp2_with fail
            generalize wt.alloc (.cells #[.int .i64 zi, .int .i64 ff, .int .i64 (k : Int), .int .i64 (m0 : Int), .int .i64 (m1 : Int), .int .i64 (m2 : Int)] 3) = wl at *
            refine (ptwo_any none 0 0 w2.heap.size [] [zi, ff, (k : Int), (m0 : Int), (m1 : Int), (m2 : Int)] wt.heap.size 6 6 wl (Wr.nil _ _) hbl (by exact XI) (apart_none _) rfl (by omega) (by omega) VS.out).mono ?_
            rintro e wh ⟨AH, cH, rfl, hH⟩
            obtain ⟨Sh, _⟩ := hH.1.keepW Wl (fun g _ => apart_none g)
            have bh := hH.1.rows (Wr.nil _ _) bl (Nat.le_refl _) hbl
            have hhs := bh.size
            clear x0 x2 z0 z1 z2 XI Wl bl hbl VS Xt Nt Wt bt
            obtain ⟨wc, CP, hc⟩ := run_wr_copy (m := 12) (c2 := cH) 3 Sh hH.1.1.rd (by omega) hn12
            go_wp2
            clear CP
            go_ret2
            have bc := hc.rows Sh bh (Nat.le_refl _) hhs
            have hlen := hc.1.1
            have hcw := hc.1
            rw [← EQ.out] at hlen hcw
            rw [EE.out]
            refine ⟨⟨A', c', ?_, ?_, ?_, hcw.2.2.1⟩, b.trans (bc.mono (by omega))⟩
            · show Ending.returned (.tuple #[.slice A' _ c', .int .i64 0]) = Ending.returned (.tuple #[.slice A' (Pk.whole (Pk.kept p m)).length c', .int .i64 0])
              rw [hlen]
            · show Rd wc wc.heap.size 1 A' (Pk.whole (Pk.kept p m)).length (U (Pk.whole (Pk.kept p m)))
              have hrd := hcw.rd
              rw [hlen]
              exact hrd
            · show (Pk.whole (Pk.kept p m)).length ≤ c'
              rw [hlen]
              exact hcw.2.1
          have d1 : decide (m < (n' : Int) + (rl : Int)) = false := decide_eq_false (by omega)
          have ST : Hid (Pk.Bst p m (t + 1) false) := Lib.hid (hS.st.take HA.out (fun h => hfit ((HFL.out m).2 h |> fun h => by omega)))
          obtain ⟨nm, hnm⟩ : ∃ x, Pk.num p t j = x := ⟨_, rfl⟩
          have NM := Lib.hid hnm
          have hnm1 : nm ≤ 100 := by have := Pk.num_le p t hj3; rw [hnm, hjl.out] at this; omega
          have vn := add1n hnm1
          have hss := hS.s
          have hsb := hS.b.size
          have z0 := N8.at j (nbx_at p t hj3)
          rw [NM.out] at z0
          have z1 := N8.cold j
          have WN := Lib.hid Wnew
          clear hnm hfit Wnew Wold hS X8
          go_wp2
          go_roundw
          case rel =>
            refine ⟨n' + rl, c8, kk + 1, A8, rfl, rfl, by go_num, by omega, ⟨by rw [← Nat.add_assoc, HT.out]; exact ST.out, ?_, a8, ?_, below_set b8 (by have := HSW.out; omega) _, by simp; omega⟩⟩
            · rw [← Nat.add_assoc, HT.out, Pk.rsb_more HA.out, ← List.append_assoc, ← List.append_assoc, List.append_assoc zeros12]
              exact WN.out.setO a8 _
            · have h5 := N8.set j (.int .i64 ((nm : Int) + 1))
              rw [← NM.out, ← HT.out, nbx_set p hj3 (List.getElem?_eq_some_iff.1 HQ.out).1] at h5
              rw [← NM.out, ← HT.out]
              exact h5
          case measure => simp [intOf]; omega
end Go.Proofs.Ytbioblknhfmelaa

