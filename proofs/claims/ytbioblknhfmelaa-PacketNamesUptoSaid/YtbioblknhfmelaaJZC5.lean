/- ZC5 (merged). -/
import Derived.Test.YtbioblknhfmelaaJZC1
import Derived.Test.YtbioblknhfmelaaJZC4
namespace Go.Proofs.Ytbioblknhfmelaa
set_option linter.unusedVariables false
set_option linter.unusedSimpArgs false
open Go.RowKit
theorem rb_bs (N : List UInt8) (r : Rrc) (h : 0 ≤ r.ttl) : N ++ (Pk.bs [r.typ, r.cls, r.ttl / 65536, r.ttl, (((strB r.data).size : Nat) : Int)] ++ r.data) = N ++ (Pk.b2 r.typ.toNat ++ (Pk.b2 r.cls.toNat ++ (Pk.b4 r.ttl.toNat ++ (Pk.b2 r.data.length ++ r.data)))) := by
  have e1 : Pk.b2 (r.ttl / 65536).toNat ++ Pk.b2 r.ttl.toNat = Pk.b4 r.ttl.toNat := by
    have h1 : (r.ttl / 65536).toNat = r.ttl.toNat / 65536 := by omega
    rw [h1]
    show [UInt8.ofNat (r.ttl.toNat / 65536 / 256), UInt8.ofNat (r.ttl.toNat / 65536), UInt8.ofNat (r.ttl.toNat / 256), UInt8.ofNat r.ttl.toNat] = [UInt8.ofNat (r.ttl.toNat / 16777216), _, _, _]
    rw [Nat.div_div_eq_div_mul]
  have e2 : ((((strB r.data).size : Nat) : Int)).toNat = r.data.length := by rw [strB_sz]; omega
  unfold Pk.bs
  simp only [List.flatMap_cons, List.flatMap_nil, List.append_nil, e2]
  rw [← e1]
  simp only [List.append_assoc]
set_option maxHeartbeats 8000000 in
set_option maxRecDepth 20000 in
theorem ptell_any (A : Option Addr) (n c base : Nat) (l : List UInt8) (r : Rrc) (qs : List Qst) (A1 : Option Addr) (n1 c1 : Nat) (w : World) (h : Wr w base A n c l) (hbase : base ≤ w.heap.size) (hn : n ≤ 1000000) (hq : Rd w w.heap.size 3 A1 n1 (QC qs)) (hn1 : n1 ≤ 4398046511104) (hql : ∀ q ∈ qs, q.name.length ≤ 100000) (hr : Pk.rightR r) (hrl : r.name.length ≤ 100000) :
    Calls Try.prog 23 #[.slice A n c, zr r, .slice A1 n1 c1] w fun e w' => ∃ A' c', e = .returned (.slice A' (n + (Pk.rb qs r).length) c') ∧ WroteK w w' base A n A' (n + (Pk.rb qs r).length) c' (l ++ Pk.rb qs r) := by
  obtain ⟨nm, typ, cls, ttl, data⟩ := r
  have hdl : data.length ≤ 1000 := hr.2.2.2.2.2
  have ht1 : Pk.two typ := hr.2.1
  have ht2 : Pk.two cls := hr.2.2.1
  have ht3 : 0 ≤ ttl := hr.2.2.2.1
  have ht4 : ttl ≤ 2147483647 := hr.2.2.2.2.1
  have hds : (strB data).size = data.length := strB_sz _
  have hdm : (strB data).size ≤ 140737488351232 := by omega
  have HDS := Lib.hid hds
  have VS : Hid (∀ v ∈ [typ, cls, ttl / 65536, ttl, (((strB data).size : Nat) : Int)], 0 ≤ v ∧ v ≤ 4294967295) := Lib.hid (by
    intro v hv
    have a1 := ht1.1
    have a2 := ht1.2
    have a3 := ht2.1
    have a4 := ht2.2
    simp only [List.mem_cons, List.not_mem_nil, or_false] at hv
    rcases hv with rfl | rfl | rfl | rfl | rfl <;> omega)
  have HT := Lib.hid ht3
  have hnl : nm.length ≤ 100000 := hrl
  have hll := Lib.hid h.1
  have HDL := Lib.hid hdl
  clear hr hrl ht1 ht2 hds hdl
  have FIN : Hid (∀ (N : List UInt8) (wz : World) (Az : Option Addr) (cz k : Nat), Pk.nmb qs ⟨nm, typ, cls, ttl, data⟩ = N → k = n + N.length + 2 * 5 + data.length → WroteK w wz base A n Az k cz (((l ++ N) ++ Pk.bs [typ, cls, ttl / 65536, ttl, (((strB data).size : Nat) : Int)]) ++ data) → k = n + (Pk.rb qs ⟨nm, typ, cls, ttl, data⟩).length ∧ WroteK w wz base A n Az (n + (Pk.rb qs ⟨nm, typ, cls, ttl, data⟩).length) cz (l ++ Pk.rb qs ⟨nm, typ, cls, ttl, data⟩)) := Lib.hid fun N wz Az cz k hN hk hw => by
    have e1 : ((l ++ N) ++ Pk.bs [typ, cls, ttl / 65536, ttl, (((strB data).size : Nat) : Int)]) ++ data = l ++ Pk.rb qs ⟨nm, typ, cls, ttl, data⟩ := by
      rw [List.append_assoc, List.append_assoc]
      congr 1
      unfold Pk.rb
      rw [hN]
      exact rb_bs N ⟨nm, typ, cls, ttl, data⟩ HT.out
    rw [e1] at hw
    have e2 : k = n + (Pk.rb qs ⟨nm, typ, cls, ttl, data⟩).length := by
      have h1 := hw.1.1.1
      rw [List.length_append, hll.out] at h1
      exact h1.symm
    exact ⟨e2, e2 ▸ hw⟩
  have hW := (WroteK.start h).alloc (.cells #[.string (strB nm), .int .i64 typ, .int .i64 cls, .int .i64 ttl, .string (strB data)] 50)
  have Y := Box.new w #[.string (strB nm), .int .i64 typ, .int .i64 cls, .int .i64 ttl, .string (strB data)] 50
  have b1 : Below w.heap.size w (w.alloc (.cells #[.string (strB nm), .int .i64 typ, .int .i64 cls, .int .i64 ttl, .string (strB data)] 50)) := (Below.refl _ _).alloc (Nat.le_refl _) _
  have hq1 := hq.belowH b1
  have ap : Apart A w.heap.size := h.apart
  have hs1 : base ≤ (w.alloc (.cells #[.string (strB nm), .int .i64 typ, .int .i64 cls, .int .i64 ttl, .string (strB data)] 50)).heap.size := by simp; omega
  clear b1 hq
  simp only [zr]
  go_enter Try.func23, Try.ntmps23
  cases qs with
  | nil =>
    have hl0 : n1 = 0 := by have := hq1.lenQ; simp at this; omega
    subst hl0
    go_wp2
    generalize (w.alloc (.cells #[.string (strB nm), .int .i64 typ, .int .i64 cls, .int .i64 ttl, .string (strB data)] 50)) = w2 at *
    have hs2 := hs1
    have hlt := Y.lt
    clear hs1 hq1
    replace hW : WroteK w w2.drew base A n A n c l := hW.belowW (Below.refl _ _).drew
    replace Y : Box w2.drew _ _ _ := Y
    replace hs2 : base ≤ w2.drew.heap.size := hs2
    replace hlt : w.heap.size < w2.drew.heap.size := hlt
    have k1 := Y.at 1 rfl
    have k2 := Y.at 2 rfl
    have k3 := Y.at 3 rfl
    have k4 := Y.at 4 rfl
    refine wp_region_held_drew (S := (fun w' => w'.cell? ⟨w.heap.size, 1, none⟩ = some (.int .i64 typ) ∧ w'.cell? ⟨w.heap.size, 2, none⟩ = some (.int .i64 cls) ∧ w'.cell? ⟨w.heap.size, 3, none⟩ = some (.int .i64 ttl) ∧ w'.cell? ⟨w.heap.size, 4, none⟩ = some (.string (strB data)))) (by kernel_rfl) (by exact ⟨k1, k2, k3, k4⟩) (fun hHeld0 => ?_)
    generalize w2.drew = wd at *
    refine tk 0 21 rfl hHeld0 ?_
    refine tk 1 22 rfl hHeld0 ?_
    refine tk 3 24 rfl hHeld0 ?_
    refine tk 4 25 rfl hHeld0 ?_
    refine tk 5 26 rfl hHeld0 ?_
    refine tk 6 27 rfl hHeld0 ?_
    refine tk 7 28 rfl hHeld0 ?_
    refine tk 8 29 rfl hHeld0 ?_
    refine tk 9 30 rfl hHeld0 ?_
    refine tk 10 31 rfl hHeld0 ?_
    refine tk 11 32 rfl hHeld0 ?_
    refine tk 12 33 rfl hHeld0 ?_
    refine tk 13 34 rfl hHeld0 ?_
    refine tk 14 35 rfl hHeld0 ?_
    refine wpAnyH_ready (rs := [2, 15]) (by kernel_rfl) (by simp) (AllReadyH.cons (o := ⟨some 23, _, _, _, _, _⟩) rfl (fun K hK => ?_) (AllReadyH.cons (o := ⟨some 36, _, _, _, _, _⟩) rfl (fun K hK => ?_) AllReadyH.nil))
    · skip
      refine wrK_str_step rfl (.tmp 21) (.tmp 22) rfl (by rfl) (h := hW.1.1) (by omega) (by rfl) (by first | omega | (simp only [List.length_cons, List.length_nil]; omega)) ?_
      rintro Aa ca wa ha
      have hWa := hW.trans ha
      have apa := ha.1.apart ap (by omega)
      have Ya := ha.1.box' Y ap
      have hsa := ha.1.2.1.size
      clear k1 k2 k3 k4; have k1 := Ya.at 1 rfl; have k2 := Ya.at 2 rfl; have k3 := Ya.at 3 rfl; have k4 := Ya.at 4 rfl
      go_simp
      refine hK.out _ _ (by exact ⟨k1, k2, k3, k4⟩) (fun hHeld1 => ?_)
      clear hK hHeld0 K
      try simp only [Act.put, sA, sB, sC]
      refine wpAnyH_ready (rs := [15]) (by kernel_rfl) (by simp) (AllReadyH.cons (o := ⟨some 36, _, _, _, _, _⟩) rfl (fun K hK => ?_) AllReadyH.nil)
      have XI := Box.new wa #[.int .i64 typ, .int .i64 cls, .int .i64 (ttl / 65536), .int .i64 ttl, .int .i64 (((strB data).size : Nat) : Int)] 3
      have api : Apart Aa wa.heap.size := hWa.1.1.apart
      have hWb := hWa.alloc (.cells #[.int .i64 typ, .int .i64 cls, .int .i64 (ttl / 65536), .int .i64 ttl, .int .i64 (((strB data).size : Nat) : Int)] 3)
      have Yb := Ya.alloc (.cells #[.int .i64 typ, .int .i64 cls, .int .i64 (ttl / 65536), .int .i64 ttl, .int .i64 (((strB data).size : Nat) : Int)] 3)
      have hsb : (wa.alloc (.cells #[.int .i64 typ, .int .i64 cls, .int .i64 (ttl / 65536), .int .i64 ttl, .int .i64 (((strB data).size : Nat) : Int)] 3)).heap.size = wa.heap.size + 1 := by simp
      clear k1 k2 k3 k4; have k1 := Yb.at 1 rfl; have k2 := Yb.at 2 rfl; have k3 := Yb.at 3 rfl; have k4 := Yb.at 4 rfl
      go_simp
      go_simp
      refine hK.out _ _ (by exact ⟨k1, k2, k3, k4⟩) (fun hHeld2 => ?_)
      clear hK hHeld1 K
      try simp only [Act.put, sA, sB, sC]
      generalize wa.alloc (.cells #[.int .i64 typ, .int .i64 cls, .int .i64 (ttl / 65536), .int .i64 ttl, .int .i64 (((strB data).size : Nat) : Int)] 3) = wb at *
      refine wpAnyH_ready (rs := [16]) (by kernel_rfl) (by simp) (AllReadyH.cons (o := ⟨some 37, _, _, _, _, _⟩) rfl (fun K hK => ?_) AllReadyH.nil)
      go_simp
      refine (ptwo_any Aa _ ca base _ [typ, cls, ttl / 65536, ttl, (((strB data).size : Nat) : Int)] wa.heap.size 5 5 _ hWb.1.1 (by omega) (by exact XI) api rfl (by first | omega | (simp only [List.length_cons, List.length_nil]; omega)) (by omega) VS.out).mono ?_
      rintro e wc ⟨Ac, cc, rfl, hc⟩
      have hWc := hWb.trans hc
      have hsc := hc.1.2.1.size
      have Yc := hc.1.box' Yb apa
      clear k1 k2 k3 k4; have k1 := Yc.at 1 rfl; have k2 := Yc.at 2 rfl; have k3 := Yc.at 3 rfl; have k4 := Yc.at 4 rfl
      go_simp
      refine hK.out _ _ (by exact ⟨k1, k2, k3, k4⟩) (fun hHeld3 => ?_)
      clear hK hHeld2 K
      try simp only [Act.put, sA, sB, sC]
      refine tk 17 0 rfl hHeld3 ?_
      refine wpAnyH_done (by kernel_rfl) ?_ _
      go_wp2_with (at_builtin; refine wrK_str_law rfl (.tmp 38) (.tmp 40) rfl rfl hWc.1.1 (by omega) rfl (by have := HDL.out; first | omega | (simp only [List.length_cons, List.length_nil]; omega)) ?_; rintro Az cz wz hz)
      go_ret
      have hF := FIN.out (nm) wz Az cz _ rfl (by first | rfl | (simp only [List.length_cons, List.length_nil])) (hWc.trans hz)
      exact ⟨Az, cz, by rw [← hF.1]; rfl, hF.2⟩
    · skip
      have XI := Box.new wd #[.int .i64 typ, .int .i64 cls, .int .i64 (ttl / 65536), .int .i64 ttl, .int .i64 (((strB data).size : Nat) : Int)] 3
      have api : Apart A wd.heap.size := hW.1.1.apart
      have hWb := hW.alloc (.cells #[.int .i64 typ, .int .i64 cls, .int .i64 (ttl / 65536), .int .i64 ttl, .int .i64 (((strB data).size : Nat) : Int)] 3)
      have Yb := Y.alloc (.cells #[.int .i64 typ, .int .i64 cls, .int .i64 (ttl / 65536), .int .i64 ttl, .int .i64 (((strB data).size : Nat) : Int)] 3)
      have hsb : (wd.alloc (.cells #[.int .i64 typ, .int .i64 cls, .int .i64 (ttl / 65536), .int .i64 ttl, .int .i64 (((strB data).size : Nat) : Int)] 3)).heap.size = wd.heap.size + 1 := by simp
      clear k1 k2 k3 k4; have k1 := Yb.at 1 rfl; have k2 := Yb.at 2 rfl; have k3 := Yb.at 3 rfl; have k4 := Yb.at 4 rfl
      go_simp
      go_simp
      refine hK.out _ _ (by exact ⟨k1, k2, k3, k4⟩) (fun hHeld1 => ?_)
      clear hK hHeld0 K
      try simp only [Act.put, sA, sB, sC]
      generalize wd.alloc (.cells #[.int .i64 typ, .int .i64 cls, .int .i64 (ttl / 65536), .int .i64 ttl, .int .i64 (((strB data).size : Nat) : Int)] 3) = wb at *
      refine wpAnyH_ready (rs := [2]) (by kernel_rfl) (by simp) (AllReadyH.cons (o := ⟨some 23, _, _, _, _, _⟩) rfl (fun K hK => ?_) AllReadyH.nil)
      refine wrK_str_step rfl (.tmp 21) (.tmp 22) rfl (by rfl) (h := hWb.1.1) (by omega) (by rfl) (by first | omega | (simp only [List.length_cons, List.length_nil]; omega)) ?_
      rintro Aa ca wa ha
      have hWa := hWb.trans ha
      have apa := ha.1.apart ap (by omega)
      have Ya := ha.1.box' Yb ap
      have hsa := ha.1.2.1.size
      clear k1 k2 k3 k4; have k1 := Ya.at 1 rfl; have k2 := Ya.at 2 rfl; have k3 := Ya.at 3 rfl; have k4 := Ya.at 4 rfl
      have XIa := ha.1.box' XI api
      have apia := ha.1.apart api (by omega)
      go_simp
      refine hK.out _ _ (by exact ⟨k1, k2, k3, k4⟩) (fun hHeld2 => ?_)
      clear hK hHeld1 K
      try simp only [Act.put, sA, sB, sC]
      refine wpAnyH_ready (rs := [16]) (by kernel_rfl) (by simp) (AllReadyH.cons (o := ⟨some 37, _, _, _, _, _⟩) rfl (fun K hK => ?_) AllReadyH.nil)
      go_simp
      refine (ptwo_any Aa _ ca base _ [typ, cls, ttl / 65536, ttl, (((strB data).size : Nat) : Int)] wd.heap.size 5 5 _ hWa.1.1 (by omega) (by exact XIa) apia rfl (by first | omega | (simp only [List.length_cons, List.length_nil]; omega)) (by omega) VS.out).mono ?_
      rintro e wc ⟨Ac, cc, rfl, hc⟩
      have hWc := hWa.trans hc
      have hsc := hc.1.2.1.size
      have Yc := hc.1.box' Ya apa
      clear k1 k2 k3 k4; have k1 := Yc.at 1 rfl; have k2 := Yc.at 2 rfl; have k3 := Yc.at 3 rfl; have k4 := Yc.at 4 rfl
      go_simp
      refine hK.out _ _ (by exact ⟨k1, k2, k3, k4⟩) (fun hHeld3 => ?_)
      clear hK hHeld2 K
      try simp only [Act.put, sA, sB, sC]
      refine tk 17 0 rfl hHeld3 ?_
      refine wpAnyH_done (by kernel_rfl) ?_ _
      go_wp2_with (at_builtin; refine wrK_str_law rfl (.tmp 38) (.tmp 40) rfl rfl hWc.1.1 (by omega) rfl (by have := HDL.out; first | omega | (simp only [List.length_cons, List.length_nil]; omega)) ?_; rintro Az cz wz hz)
      go_ret
      have hF := FIN.out (nm) wz Az cz _ rfl (by first | rfl | (simp only [List.length_cons, List.length_nil])) (hWc.trans hz)
      exact ⟨Az, cz, by rw [← hF.1]; rfl, hF.2⟩
  | cons q qt =>
    have hl1 : 0 < n1 := by have := hq1.lenQ; simp at this; omega
    have g1 : decide ((0 : Int) < (n1 : Int)) = true := decide_eq_true (by omega)
    have g2 : decide (0 < n1) = true := decide_eq_true hl1
    obtain ⟨bk, ok', q', rfl, hbk, hq', c0, c1, c2⟩ := hq1.atQ hl1
    obtain rfl : q' = q := by simpa using hq'.symm
    simp only [Nat.zero_mul, Nat.add_zero] at c0 c1 c2
    have hqn : q'.name.length ≤ 100000 := hql q' (by simp)
    obtain ⟨z, hz⟩ : ∃ z, Lab.same nm q'.name = z := ⟨_, rfl⟩
    have HZ := Lib.hid hz
    clear hz hq' hq1 c1 c2
    go_wp2_with fail
    generalize (w.alloc (.cells #[.string (strB nm), .int .i64 typ, .int .i64 cls, .int .i64 ttl, .string (strB data)] 50)) = w1 at *
    refine (blsame_any nm q'.name hnl hqn w1).mono ?_
    rw [HZ.out]
    rintro e w2 ⟨rfl, hb⟩
    replace hW := hW.belowW hb
    have hlt1 := Y.lt
    replace Y := Y.below hb hlt1
    have hs2 : base ≤ w2.heap.size := Nat.le_trans hs1 hb.size
    have hlt := Y.lt
    clear hb hs1 c0 hbk hlt1 g1 g2
    cases z
    · go_wp2
      replace hW : WroteK w w2.drew base A n A n c l := hW.belowW (Below.refl _ _).drew
      replace Y : Box w2.drew _ _ _ := Y
      replace hs2 : base ≤ w2.drew.heap.size := hs2
      replace hlt : w.heap.size < w2.drew.heap.size := hlt
      have k1 := Y.at 1 rfl
      have k2 := Y.at 2 rfl
      have k3 := Y.at 3 rfl
      have k4 := Y.at 4 rfl
      refine wp_region_held_drew (S := (fun w' => w'.cell? ⟨w.heap.size, 1, none⟩ = some (.int .i64 typ) ∧ w'.cell? ⟨w.heap.size, 2, none⟩ = some (.int .i64 cls) ∧ w'.cell? ⟨w.heap.size, 3, none⟩ = some (.int .i64 ttl) ∧ w'.cell? ⟨w.heap.size, 4, none⟩ = some (.string (strB data)))) (by kernel_rfl) (by exact ⟨k1, k2, k3, k4⟩) (fun hHeld0 => ?_)
      generalize w2.drew = wd at *
      refine tk 0 21 rfl hHeld0 ?_
      refine tk 1 22 rfl hHeld0 ?_
      refine tk 3 24 rfl hHeld0 ?_
      refine tk 4 25 rfl hHeld0 ?_
      refine tk 5 26 rfl hHeld0 ?_
      refine tk 6 27 rfl hHeld0 ?_
      refine tk 7 28 rfl hHeld0 ?_
      refine tk 8 29 rfl hHeld0 ?_
      refine tk 9 30 rfl hHeld0 ?_
      refine tk 10 31 rfl hHeld0 ?_
      refine tk 11 32 rfl hHeld0 ?_
      refine tk 12 33 rfl hHeld0 ?_
      refine tk 13 34 rfl hHeld0 ?_
      refine tk 14 35 rfl hHeld0 ?_
      refine wpAnyH_ready (rs := [2, 15]) (by kernel_rfl) (by simp) (AllReadyH.cons (o := ⟨some 23, _, _, _, _, _⟩) rfl (fun K hK => ?_) (AllReadyH.cons (o := ⟨some 36, _, _, _, _, _⟩) rfl (fun K hK => ?_) AllReadyH.nil))
      · skip
        refine wrK_str_step rfl (.tmp 21) (.tmp 22) rfl (by rfl) (h := hW.1.1) (by omega) (by rfl) (by first | omega | (simp only [List.length_cons, List.length_nil]; omega)) ?_
        rintro Aa ca wa ha
        have hWa := hW.trans ha
        have apa := ha.1.apart ap (by omega)
        have Ya := ha.1.box' Y ap
        have hsa := ha.1.2.1.size
        clear k1 k2 k3 k4; have k1 := Ya.at 1 rfl; have k2 := Ya.at 2 rfl; have k3 := Ya.at 3 rfl; have k4 := Ya.at 4 rfl
        go_simp
        refine hK.out _ _ (by exact ⟨k1, k2, k3, k4⟩) (fun hHeld1 => ?_)
        clear hK hHeld0 K
        try simp only [Act.put, sA, sB, sC]
        refine wpAnyH_ready (rs := [15]) (by kernel_rfl) (by simp) (AllReadyH.cons (o := ⟨some 36, _, _, _, _, _⟩) rfl (fun K hK => ?_) AllReadyH.nil)
        have XI := Box.new wa #[.int .i64 typ, .int .i64 cls, .int .i64 (ttl / 65536), .int .i64 ttl, .int .i64 (((strB data).size : Nat) : Int)] 3
        have api : Apart Aa wa.heap.size := hWa.1.1.apart
        have hWb := hWa.alloc (.cells #[.int .i64 typ, .int .i64 cls, .int .i64 (ttl / 65536), .int .i64 ttl, .int .i64 (((strB data).size : Nat) : Int)] 3)
        have Yb := Ya.alloc (.cells #[.int .i64 typ, .int .i64 cls, .int .i64 (ttl / 65536), .int .i64 ttl, .int .i64 (((strB data).size : Nat) : Int)] 3)
        have hsb : (wa.alloc (.cells #[.int .i64 typ, .int .i64 cls, .int .i64 (ttl / 65536), .int .i64 ttl, .int .i64 (((strB data).size : Nat) : Int)] 3)).heap.size = wa.heap.size + 1 := by simp
        clear k1 k2 k3 k4; have k1 := Yb.at 1 rfl; have k2 := Yb.at 2 rfl; have k3 := Yb.at 3 rfl; have k4 := Yb.at 4 rfl
        go_simp
        go_simp
        refine hK.out _ _ (by exact ⟨k1, k2, k3, k4⟩) (fun hHeld2 => ?_)
        clear hK hHeld1 K
        try simp only [Act.put, sA, sB, sC]
        generalize wa.alloc (.cells #[.int .i64 typ, .int .i64 cls, .int .i64 (ttl / 65536), .int .i64 ttl, .int .i64 (((strB data).size : Nat) : Int)] 3) = wb at *
        refine wpAnyH_ready (rs := [16]) (by kernel_rfl) (by simp) (AllReadyH.cons (o := ⟨some 37, _, _, _, _, _⟩) rfl (fun K hK => ?_) AllReadyH.nil)
        go_simp
        refine (ptwo_any Aa _ ca base _ [typ, cls, ttl / 65536, ttl, (((strB data).size : Nat) : Int)] wa.heap.size 5 5 _ hWb.1.1 (by omega) (by exact XI) api rfl (by first | omega | (simp only [List.length_cons, List.length_nil]; omega)) (by omega) VS.out).mono ?_
        rintro e wc ⟨Ac, cc, rfl, hc⟩
        have hWc := hWb.trans hc
        have hsc := hc.1.2.1.size
        have Yc := hc.1.box' Yb apa
        clear k1 k2 k3 k4; have k1 := Yc.at 1 rfl; have k2 := Yc.at 2 rfl; have k3 := Yc.at 3 rfl; have k4 := Yc.at 4 rfl
        go_simp
        refine hK.out _ _ (by exact ⟨k1, k2, k3, k4⟩) (fun hHeld3 => ?_)
        clear hK hHeld2 K
        try simp only [Act.put, sA, sB, sC]
        refine tk 17 0 rfl hHeld3 ?_
        refine wpAnyH_done (by kernel_rfl) ?_ _
        go_wp2_with (at_builtin; refine wrK_str_law rfl (.tmp 38) (.tmp 40) rfl rfl hWc.1.1 (by omega) rfl (by have := HDL.out; first | omega | (simp only [List.length_cons, List.length_nil]; omega)) ?_; rintro Az cz wz hz)
        go_ret
        have hF := FIN.out (nm) wz Az cz _ (by unfold Pk.nmb Pk.asked; simp only [HZ.out]; rfl) (by first | rfl | (simp only [List.length_cons, List.length_nil])) (hWc.trans hz)
        exact ⟨Az, cz, by rw [← hF.1]; rfl, hF.2⟩
      · skip
        have XI := Box.new wd #[.int .i64 typ, .int .i64 cls, .int .i64 (ttl / 65536), .int .i64 ttl, .int .i64 (((strB data).size : Nat) : Int)] 3
        have api : Apart A wd.heap.size := hW.1.1.apart
        have hWb := hW.alloc (.cells #[.int .i64 typ, .int .i64 cls, .int .i64 (ttl / 65536), .int .i64 ttl, .int .i64 (((strB data).size : Nat) : Int)] 3)
        have Yb := Y.alloc (.cells #[.int .i64 typ, .int .i64 cls, .int .i64 (ttl / 65536), .int .i64 ttl, .int .i64 (((strB data).size : Nat) : Int)] 3)
        have hsb : (wd.alloc (.cells #[.int .i64 typ, .int .i64 cls, .int .i64 (ttl / 65536), .int .i64 ttl, .int .i64 (((strB data).size : Nat) : Int)] 3)).heap.size = wd.heap.size + 1 := by simp
        clear k1 k2 k3 k4; have k1 := Yb.at 1 rfl; have k2 := Yb.at 2 rfl; have k3 := Yb.at 3 rfl; have k4 := Yb.at 4 rfl
        go_simp
        go_simp
        refine hK.out _ _ (by exact ⟨k1, k2, k3, k4⟩) (fun hHeld1 => ?_)
        clear hK hHeld0 K
        try simp only [Act.put, sA, sB, sC]
        generalize wd.alloc (.cells #[.int .i64 typ, .int .i64 cls, .int .i64 (ttl / 65536), .int .i64 ttl, .int .i64 (((strB data).size : Nat) : Int)] 3) = wb at *
        refine wpAnyH_ready (rs := [2]) (by kernel_rfl) (by simp) (AllReadyH.cons (o := ⟨some 23, _, _, _, _, _⟩) rfl (fun K hK => ?_) AllReadyH.nil)
        refine wrK_str_step rfl (.tmp 21) (.tmp 22) rfl (by rfl) (h := hWb.1.1) (by omega) (by rfl) (by first | omega | (simp only [List.length_cons, List.length_nil]; omega)) ?_
        rintro Aa ca wa ha
        have hWa := hWb.trans ha
        have apa := ha.1.apart ap (by omega)
        have Ya := ha.1.box' Yb ap
        have hsa := ha.1.2.1.size
        clear k1 k2 k3 k4; have k1 := Ya.at 1 rfl; have k2 := Ya.at 2 rfl; have k3 := Ya.at 3 rfl; have k4 := Ya.at 4 rfl
        have XIa := ha.1.box' XI api
        have apia := ha.1.apart api (by omega)
        go_simp
        refine hK.out _ _ (by exact ⟨k1, k2, k3, k4⟩) (fun hHeld2 => ?_)
        clear hK hHeld1 K
        try simp only [Act.put, sA, sB, sC]
        refine wpAnyH_ready (rs := [16]) (by kernel_rfl) (by simp) (AllReadyH.cons (o := ⟨some 37, _, _, _, _, _⟩) rfl (fun K hK => ?_) AllReadyH.nil)
        go_simp
        refine (ptwo_any Aa _ ca base _ [typ, cls, ttl / 65536, ttl, (((strB data).size : Nat) : Int)] wd.heap.size 5 5 _ hWa.1.1 (by omega) (by exact XIa) apia rfl (by first | omega | (simp only [List.length_cons, List.length_nil]; omega)) (by omega) VS.out).mono ?_
        rintro e wc ⟨Ac, cc, rfl, hc⟩
        have hWc := hWa.trans hc
        have hsc := hc.1.2.1.size
        have Yc := hc.1.box' Ya apa
        clear k1 k2 k3 k4; have k1 := Yc.at 1 rfl; have k2 := Yc.at 2 rfl; have k3 := Yc.at 3 rfl; have k4 := Yc.at 4 rfl
        go_simp
        refine hK.out _ _ (by exact ⟨k1, k2, k3, k4⟩) (fun hHeld3 => ?_)
        clear hK hHeld2 K
        try simp only [Act.put, sA, sB, sC]
        refine tk 17 0 rfl hHeld3 ?_
        refine wpAnyH_done (by kernel_rfl) ?_ _
        go_wp2_with (at_builtin; refine wrK_str_law rfl (.tmp 38) (.tmp 40) rfl rfl hWc.1.1 (by omega) rfl (by have := HDL.out; first | omega | (simp only [List.length_cons, List.length_nil]; omega)) ?_; rintro Az cz wz hz)
        go_ret
        have hF := FIN.out (nm) wz Az cz _ (by unfold Pk.nmb Pk.asked; simp only [HZ.out]; rfl) (by first | rfl | (simp only [List.length_cons, List.length_nil])) (hWc.trans hz)
        exact ⟨Az, cz, by rw [← hF.1]; rfl, hF.2⟩
    · go_wp2
      replace hW : WroteK w w2.drew base A n A n c l := hW.belowW (Below.refl _ _).drew
      replace Y : Box w2.drew _ _ _ := Y
      replace hs2 : base ≤ w2.drew.heap.size := hs2
      replace hlt : w.heap.size < w2.drew.heap.size := hlt
      have k1 := Y.at 1 rfl
      have k2 := Y.at 2 rfl
      have k3 := Y.at 3 rfl
      have k4 := Y.at 4 rfl
      refine wp_region_held_drew (S := (fun w' => w'.cell? ⟨w.heap.size, 1, none⟩ = some (.int .i64 typ) ∧ w'.cell? ⟨w.heap.size, 2, none⟩ = some (.int .i64 cls) ∧ w'.cell? ⟨w.heap.size, 3, none⟩ = some (.int .i64 ttl) ∧ w'.cell? ⟨w.heap.size, 4, none⟩ = some (.string (strB data)))) (by kernel_rfl) (by exact ⟨k1, k2, k3, k4⟩) (fun hHeld0 => ?_)
      generalize w2.drew = wd at *
      refine tk 0 21 rfl hHeld0 ?_
      refine tk 1 22 rfl hHeld0 ?_
      refine tk 3 24 rfl hHeld0 ?_
      refine tk 4 25 rfl hHeld0 ?_
      refine tk 5 26 rfl hHeld0 ?_
      refine tk 6 27 rfl hHeld0 ?_
      refine tk 7 28 rfl hHeld0 ?_
      refine tk 8 29 rfl hHeld0 ?_
      refine tk 9 30 rfl hHeld0 ?_
      refine tk 10 31 rfl hHeld0 ?_
      refine tk 11 32 rfl hHeld0 ?_
      refine tk 12 33 rfl hHeld0 ?_
      refine tk 13 34 rfl hHeld0 ?_
      refine tk 14 35 rfl hHeld0 ?_
      refine wpAnyH_ready (rs := [2, 15]) (by kernel_rfl) (by simp) (AllReadyH.cons (o := ⟨some 23, _, _, _, _, _⟩) rfl (fun K hK => ?_) (AllReadyH.cons (o := ⟨some 36, _, _, _, _, _⟩) rfl (fun K hK => ?_) AllReadyH.nil))
      · skip
        refine wrK_str_step rfl (.tmp 21) (.tmp 22) rfl (by rfl) (h := hW.1.1) (by omega) (by rfl) (by first | omega | (simp only [List.length_cons, List.length_nil]; omega)) ?_
        rintro Aa ca wa ha
        have hWa := hW.trans ha
        have apa := ha.1.apart ap (by omega)
        have Ya := ha.1.box' Y ap
        have hsa := ha.1.2.1.size
        clear k1 k2 k3 k4; have k1 := Ya.at 1 rfl; have k2 := Ya.at 2 rfl; have k3 := Ya.at 3 rfl; have k4 := Ya.at 4 rfl
        go_simp
        refine hK.out _ _ (by exact ⟨k1, k2, k3, k4⟩) (fun hHeld1 => ?_)
        clear hK hHeld0 K
        try simp only [Act.put, sA, sB, sC]
        refine wpAnyH_ready (rs := [15]) (by kernel_rfl) (by simp) (AllReadyH.cons (o := ⟨some 36, _, _, _, _, _⟩) rfl (fun K hK => ?_) AllReadyH.nil)
        have XI := Box.new wa #[.int .i64 typ, .int .i64 cls, .int .i64 (ttl / 65536), .int .i64 ttl, .int .i64 (((strB data).size : Nat) : Int)] 3
        have api : Apart Aa wa.heap.size := hWa.1.1.apart
        have hWb := hWa.alloc (.cells #[.int .i64 typ, .int .i64 cls, .int .i64 (ttl / 65536), .int .i64 ttl, .int .i64 (((strB data).size : Nat) : Int)] 3)
        have Yb := Ya.alloc (.cells #[.int .i64 typ, .int .i64 cls, .int .i64 (ttl / 65536), .int .i64 ttl, .int .i64 (((strB data).size : Nat) : Int)] 3)
        have hsb : (wa.alloc (.cells #[.int .i64 typ, .int .i64 cls, .int .i64 (ttl / 65536), .int .i64 ttl, .int .i64 (((strB data).size : Nat) : Int)] 3)).heap.size = wa.heap.size + 1 := by simp
        clear k1 k2 k3 k4; have k1 := Yb.at 1 rfl; have k2 := Yb.at 2 rfl; have k3 := Yb.at 3 rfl; have k4 := Yb.at 4 rfl
        go_simp
        go_simp
        refine hK.out _ _ (by exact ⟨k1, k2, k3, k4⟩) (fun hHeld2 => ?_)
        clear hK hHeld1 K
        try simp only [Act.put, sA, sB, sC]
        generalize wa.alloc (.cells #[.int .i64 typ, .int .i64 cls, .int .i64 (ttl / 65536), .int .i64 ttl, .int .i64 (((strB data).size : Nat) : Int)] 3) = wb at *
        refine wpAnyH_ready (rs := [16]) (by kernel_rfl) (by simp) (AllReadyH.cons (o := ⟨some 37, _, _, _, _, _⟩) rfl (fun K hK => ?_) AllReadyH.nil)
        go_simp
        refine (ptwo_any Aa _ ca base _ [typ, cls, ttl / 65536, ttl, (((strB data).size : Nat) : Int)] wa.heap.size 5 5 _ hWb.1.1 (by omega) (by exact XI) api rfl (by first | omega | (simp only [List.length_cons, List.length_nil]; omega)) (by omega) VS.out).mono ?_
        rintro e wc ⟨Ac, cc, rfl, hc⟩
        have hWc := hWb.trans hc
        have hsc := hc.1.2.1.size
        have Yc := hc.1.box' Yb apa
        clear k1 k2 k3 k4; have k1 := Yc.at 1 rfl; have k2 := Yc.at 2 rfl; have k3 := Yc.at 3 rfl; have k4 := Yc.at 4 rfl
        go_simp
        refine hK.out _ _ (by exact ⟨k1, k2, k3, k4⟩) (fun hHeld3 => ?_)
        clear hK hHeld2 K
        try simp only [Act.put, sA, sB, sC]
        refine tk 17 0 rfl hHeld3 ?_
        refine wpAnyH_done (by kernel_rfl) ?_ _
        go_wp2_with (at_builtin; refine wrK_str_law rfl (.tmp 38) (.tmp 40) rfl rfl hWc.1.1 (by omega) rfl (by have := HDL.out; first | omega | (simp only [List.length_cons, List.length_nil]; omega)) ?_; rintro Az cz wz hz)
        go_ret
        have hF := FIN.out ([192, 12]) wz Az cz _ (by unfold Pk.nmb Pk.asked; simp only [HZ.out]; rfl) (by first | rfl | (simp only [List.length_cons, List.length_nil])) (hWc.trans hz)
        exact ⟨Az, cz, by rw [← hF.1]; rfl, hF.2⟩
      · skip
        have XI := Box.new wd #[.int .i64 typ, .int .i64 cls, .int .i64 (ttl / 65536), .int .i64 ttl, .int .i64 (((strB data).size : Nat) : Int)] 3
        have api : Apart A wd.heap.size := hW.1.1.apart
        have hWb := hW.alloc (.cells #[.int .i64 typ, .int .i64 cls, .int .i64 (ttl / 65536), .int .i64 ttl, .int .i64 (((strB data).size : Nat) : Int)] 3)
        have Yb := Y.alloc (.cells #[.int .i64 typ, .int .i64 cls, .int .i64 (ttl / 65536), .int .i64 ttl, .int .i64 (((strB data).size : Nat) : Int)] 3)
        have hsb : (wd.alloc (.cells #[.int .i64 typ, .int .i64 cls, .int .i64 (ttl / 65536), .int .i64 ttl, .int .i64 (((strB data).size : Nat) : Int)] 3)).heap.size = wd.heap.size + 1 := by simp
        clear k1 k2 k3 k4; have k1 := Yb.at 1 rfl; have k2 := Yb.at 2 rfl; have k3 := Yb.at 3 rfl; have k4 := Yb.at 4 rfl
        go_simp
        go_simp
        refine hK.out _ _ (by exact ⟨k1, k2, k3, k4⟩) (fun hHeld1 => ?_)
        clear hK hHeld0 K
        try simp only [Act.put, sA, sB, sC]
        generalize wd.alloc (.cells #[.int .i64 typ, .int .i64 cls, .int .i64 (ttl / 65536), .int .i64 ttl, .int .i64 (((strB data).size : Nat) : Int)] 3) = wb at *
        refine wpAnyH_ready (rs := [2]) (by kernel_rfl) (by simp) (AllReadyH.cons (o := ⟨some 23, _, _, _, _, _⟩) rfl (fun K hK => ?_) AllReadyH.nil)
        refine wrK_str_step rfl (.tmp 21) (.tmp 22) rfl (by rfl) (h := hWb.1.1) (by omega) (by rfl) (by first | omega | (simp only [List.length_cons, List.length_nil]; omega)) ?_
        rintro Aa ca wa ha
        have hWa := hWb.trans ha
        have apa := ha.1.apart ap (by omega)
        have Ya := ha.1.box' Yb ap
        have hsa := ha.1.2.1.size
        clear k1 k2 k3 k4; have k1 := Ya.at 1 rfl; have k2 := Ya.at 2 rfl; have k3 := Ya.at 3 rfl; have k4 := Ya.at 4 rfl
        have XIa := ha.1.box' XI api
        have apia := ha.1.apart api (by omega)
        go_simp
        refine hK.out _ _ (by exact ⟨k1, k2, k3, k4⟩) (fun hHeld2 => ?_)
        clear hK hHeld1 K
        try simp only [Act.put, sA, sB, sC]
        refine wpAnyH_ready (rs := [16]) (by kernel_rfl) (by simp) (AllReadyH.cons (o := ⟨some 37, _, _, _, _, _⟩) rfl (fun K hK => ?_) AllReadyH.nil)
        go_simp
        refine (ptwo_any Aa _ ca base _ [typ, cls, ttl / 65536, ttl, (((strB data).size : Nat) : Int)] wd.heap.size 5 5 _ hWa.1.1 (by omega) (by exact XIa) apia rfl (by first | omega | (simp only [List.length_cons, List.length_nil]; omega)) (by omega) VS.out).mono ?_
        rintro e wc ⟨Ac, cc, rfl, hc⟩
        have hWc := hWa.trans hc
        have hsc := hc.1.2.1.size
        have Yc := hc.1.box' Ya apa
        clear k1 k2 k3 k4; have k1 := Yc.at 1 rfl; have k2 := Yc.at 2 rfl; have k3 := Yc.at 3 rfl; have k4 := Yc.at 4 rfl
        go_simp
        refine hK.out _ _ (by exact ⟨k1, k2, k3, k4⟩) (fun hHeld3 => ?_)
        clear hK hHeld2 K
        try simp only [Act.put, sA, sB, sC]
        refine tk 17 0 rfl hHeld3 ?_
        refine wpAnyH_done (by kernel_rfl) ?_ _
        go_wp2_with (at_builtin; refine wrK_str_law rfl (.tmp 38) (.tmp 40) rfl rfl hWc.1.1 (by omega) rfl (by have := HDL.out; first | omega | (simp only [List.length_cons, List.length_nil]; omega)) ?_; rintro Az cz wz hz)
        go_ret
        have hF := FIN.out ([192, 12]) wz Az cz _ (by unfold Pk.nmb Pk.asked; simp only [HZ.out]; rfl) (by first | rfl | (simp only [List.length_cons, List.length_nil])) (hWc.trans hz)
        exact ⟨Az, cz, by rw [← hF.1]; rfl, hF.2⟩
end Go.Proofs.Ytbioblknhfmelaa

