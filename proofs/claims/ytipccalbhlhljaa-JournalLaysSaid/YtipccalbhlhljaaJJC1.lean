/- JC1 (merged). -/
import Derived.Test.YtipccalbhlhljaaJJRef5
import Derived.Test.YtipccalbhlhljaaJKCode
namespace Go.Proofs.Ytipccalbhlhljaa
set_option linter.unusedVariables false
set_option linter.unusedSimpArgs false
open Go.RowKit
set_option maxHeartbeats 1000000 in
theorem jmay_any (x : Rc) (w : World) (hx : RcIn x) : Calls Try.prog 26 #[rv x] w (BoolK (decide (J.may x)) w) := by
  obtain ⟨q, g, s⟩ := x
  obtain ⟨hq, hg, hn⟩ := hx
  simp only at hq hg hn
  simp only [rv]
  have X := Box.new w #[.int .i64 q, .int .i64 g, .string (strB s)] 23
  have b := (Below.refl w.heap.size w).alloc (Nat.le_refl _) (.cells #[.int .i64 q, .int .i64 g, .string (strB s)] 23)
  have x0 := X.at 0 rfl
  have x1 := X.at 1 rfl
  have x2 := X.at 2 rfl
  have ans : ∀ v : Bool, (J.may ⟨q, g, s⟩ ↔ v = true) → BoolK (decide (J.may ⟨q, g, s⟩)) w (.returned (.bool v)) (w.alloc (.cells #[.int .i64 q, .int .i64 g, .string (strB s)] 23)) := fun v hv => by
    refine ⟨ret_bool ?_, b⟩
    cases v
    · exact (decide_eq_false fun hr => by simpa using hv.1 hr).symm
    · exact (decide_eq_true (hv.2 rfl)).symm
  have D : J.may ⟨q, g, s⟩ ↔ 1 ≤ q ∧ q ≤ 1099511627776 ∧ 1 ≤ g ∧ g ≤ 1099511627776 ∧ s.length ≤ 30 := Iff.rfl
  have ANS := Lib.hid ans
  have hsz : (strB s).size = s.length := J.strB_size s
  have DD := Lib.hid D
  obtain ⟨t, ht⟩ : ∃ t, strB s = t := ⟨_, rfl⟩
  rw [ht] at hsz
  rw [ht] at X b x0 x1 x2 ANS ⊢
  have HT := Lib.hid hsz
  have htn : t.size ≤ 9223372036854775807 := by omega
  clear ans D hsz ht
  by_cases c1 : 1 ≤ q
  · by_cases c2 : q ≤ 1099511627776
    · by_cases c3 : 1 ≤ g
      · by_cases c4 : g ≤ 1099511627776
        · go_enter Try.func26, Try.ntmps26
          go_wp2
          go_ret
          exact ANS.out _ (DD.out.trans (by have := HT.out; simp; omega))
        · go_enter Try.func26, Try.ntmps26
          go_wp2
          go_ret
          exact ANS.out _ (DD.out.trans (by simp; omega))
      · go_enter Try.func26, Try.ntmps26
        go_wp2
        go_ret
        exact ANS.out _ (DD.out.trans (by simp; omega))
    · go_enter Try.func26, Try.ntmps26
      go_wp2
      go_ret
      exact ANS.out _ (DD.out.trans (by simp; omega))
  · go_enter Try.func26, Try.ntmps26
    go_wp2
    go_ret
    exact ANS.out _ (DD.out.trans (by simp; omega))

set_option maxHeartbeats 1000000 in
theorem jtakes_any (l : List (List UInt8)) (f : Int) (o : Bool) (A : Option Addr) (n c : Nat) (x : Rc) (w : World) (hx : RcIn x) :
    Calls Try.prog 38 #[.agg #[.slice A n c, .int .i64 f, .bool o], rv x] w (BoolK (decide (2 ≤ n ∧ J.may x)) w) := by
  have hM := fun w => jmay_any x w hx
  obtain ⟨z, hz⟩ : ∃ z, decide (2 ≤ n ∧ J.may x) = z := ⟨_, rfl⟩
  obtain ⟨y, hy⟩ : ∃ y, decide (J.may x) = y := ⟨_, rfl⟩
  rw [hz]
  rw [hy] at hM
  have HZ := Lib.hid hz
  have HY := Lib.hid hy
  clear hz hy
  obtain ⟨q, g, s⟩ := x
  simp only [rv] at hM ⊢
  have P := (Box.new w #[.slice A n c, .int .i64 f, .bool o] 34).alloc (.cells #[.int .i64 q, .int .i64 g, .string (strB s)] 23)
  have Q := Box.new (w.alloc (.cells #[.slice A n c, .int .i64 f, .bool o] 34)) #[.int .i64 q, .int .i64 g, .string (strB s)] 23
  have bl := ((Below.refl w.heap.size w).alloc (Nat.le_refl _) (.cells #[.slice A n c, .int .i64 f, .bool o] 34)).alloc (by simp) (.cells #[.int .i64 q, .int .i64 g, .string (strB s)] 23)
  rw [show (w.alloc (.cells #[.slice A n c, .int .i64 f, .bool o] 34)).heap.size = w.heap.size + 1 by simp] at Q
  have p0 := P.at 0 rfl
  have p1 := P.at 1 rfl
  have p2 := P.at 2 rfl
  have q0 := Q.at 0 rfl
  have q1 := Q.at 1 rfl
  have q2 := Q.at 2 rfl
  by_cases h2 : 2 ≤ n
  · have t1 : decide (2 ≤ (n : Int)) = true := decide_eq_true (by omega)
    have t2 : decide (2 ≤ n) = true := decide_eq_true h2
    have ANS : Hid (z = y) := Lib.hid (by rw [← HZ.out, ← HY.out]; simp [h2])
    clear hx h2
    go_enter Try.func38, Try.ntmps38
    go_wp2_with (go_at_call 26; refine (hM _).mono ?_; rintro e w2 ⟨rfl, hb⟩; replace bl := bl.trans (hb.mono bl.size))
    go_ret
    exact ⟨ret_bool ANS.out.symm, bl⟩
  · have t1 : decide (2 ≤ (n : Int)) = false := decide_eq_false (by omega)
    have t2 : decide (2 ≤ n) = false := decide_eq_false h2
    have ANS : Hid (z = false) := Lib.hid (by rw [← HZ.out]; exact decide_eq_false fun hc => h2 hc.1)
    clear hx hM h2
    go_enter Try.func38, Try.ntmps38
    go_wp2
    go_ret
    exact ⟨ret_bool ANS.out.symm, bl⟩
set_option maxHeartbeats 1000000 in
theorem jplace_any (l : List (List UInt8)) (f : Int) (o : Bool) (A : Option Addr) (n c : Nat) (x : Rc) (w : World) (hx : J.may x) (hn0 : 0 < n) (hn : n ≤ 1000) :
    Calls Try.prog 45 #[.agg #[.slice A n c, .int .i64 f, .bool o], rv x] w (IntK (x.seq.tmod n) w) := by
  obtain ⟨q, g, s⟩ := x
  have hx0 := hx.1
  simp only at hx0
  simp only [rv]
  have P := (Box.new w #[.slice A n c, .int .i64 f, .bool o] 34).alloc (.cells #[.int .i64 q, .int .i64 g, .string (strB s)] 23)
  have Q := Box.new (w.alloc (.cells #[.slice A n c, .int .i64 f, .bool o] 34)) #[.int .i64 q, .int .i64 g, .string (strB s)] 23
  have bl := ((Below.refl w.heap.size w).alloc (Nat.le_refl _) (.cells #[.slice A n c, .int .i64 f, .bool o] 34)).alloc (by simp) (.cells #[.int .i64 q, .int .i64 g, .string (strB s)] 23)
  rw [show (w.alloc (.cells #[.slice A n c, .int .i64 f, .bool o] 34)).heap.size = w.heap.size + 1 by simp] at Q
  obtain ⟨m, hmm⟩ : ∃ m, q.tmod (n : Int) = m := ⟨_, rfl⟩
  have HMM := Lib.hid hmm
  have hm0 : 0 ≤ m := by rw [← hmm]; exact Int.tmod_nonneg _ (by omega)
  have hm1 : m < n := by rw [← hmm]; exact Int.tmod_lt_of_pos _ (by omega)
  have hmw : IntKind.i64.wrap m = m := IntWalk.i64_in _ (by omega)
  have hnz : ¬ n = 0 := by omega
  go_enter Try.func45, Try.ntmps45
  go_wp2_with fail
  generalize (w.alloc (.cells #[.slice A n c, .int .i64 f, .bool o] 34)).alloc (.cells #[.int .i64 q, .int .i64 g, .string (strB s)] 23) = w1 at *
  have p0 := P.at 0 rfl
  have p1 := P.at 1 rfl
  have p2 := P.at 2 rfl
  have q0 := Q.at 0 rfl
  have q1 := Q.at 1 rfl
  have q2 := Q.at 2 rfl
  clear hx
  go_wp2
  go_ret
  exact ⟨ret_int HMM.out.symm, bl⟩
set_option maxHeartbeats 2000000 in
set_option maxRecDepth 20000 in
theorem jrefuse_any (d : Dk) (A : Option Addr) (n c : Nat) (er : Int) (w : World) (h : KRd w ⟨d, A, n, c⟩) (hn : n ≤ 1000) :
    Calls Try.prog 37 #[.agg #[.slice A n c, .int .i64 d.fuse, .bool d.down], .int .i64 er] w (TripR (d, J.none, er) w) := by
  have hlen : d.secs.length = n := h.len
  have hwf : K.wf d := h.2.1
  obtain ⟨l, f, o⟩ := d
  simp only at hlen
  simp only
  have P := ((Box.new w #[.slice A n c, .int .i64 f, .bool o] 34).alloc (.cells #[.slice none 0 0, .int .i64 0, .bool false] 34)).alloc (.cells #[.int .i64 0, .int .i64 0, .string ⟨#[]⟩] 23)
  have V := (Box.new (w.alloc (.cells #[.slice A n c, .int .i64 f, .bool o] 34)) #[.slice none 0 0, .int .i64 0, .bool false] 34).alloc (.cells #[.int .i64 0, .int .i64 0, .string ⟨#[]⟩] 23)
  have Z := Box.new ((w.alloc (.cells #[.slice A n c, .int .i64 f, .bool o] 34)).alloc (.cells #[.slice none 0 0, .int .i64 0, .bool false] 34)) #[.int .i64 0, .int .i64 0, .string ⟨#[]⟩] 23
  have bl := (((Below.refl w.heap.size w).alloc (Nat.le_refl _) (.cells #[.slice A n c, .int .i64 f, .bool o] 34)).alloc (by simp) (.cells #[.slice none 0 0, .int .i64 0, .bool false] 34)).alloc (by simp; omega) (.cells #[.int .i64 0, .int .i64 0, .string ⟨#[]⟩] 23)
  rw [show (w.alloc (.cells #[.slice A n c, .int .i64 f, .bool o] 34)).heap.size = w.heap.size + 1 by simp] at V
  rw [show ((w.alloc (.cells #[.slice A n c, .int .i64 f, .bool o] 34)).alloc (.cells #[.slice none 0 0, .int .i64 0, .bool false] 34)).heap.size = w.heap.size + 1 + 1 by simp] at Z
  have R := h.belowH bl
  have HWF := Lib.hid hwf
  have HL := Lib.hid hlen
  clear h hwf hlen
  go_enter Try.func37, Try.ntmps37
  go_wp2_with fail
  generalize ((w.alloc (.cells #[.slice A n c, .int .i64 f, .bool o] 34)).alloc (.cells #[.slice none 0 0, .int .i64 0, .bool false] 34)).alloc (.cells #[.int .i64 0, .int .i64 0, .string ⟨#[]⟩] 23) = w1 at *
  replace P := P.drew
  replace V := V.drew
  replace Z := Z.drew
  replace R := R.drew
  replace bl := bl.drew
  refine wp_region_held_drew (S := (fun w' => w'.cell? ⟨w.heap.size, 0, none⟩ = some (.slice A n c) ∧ w'.cell? ⟨w.heap.size, 1, none⟩ = some (.int .i64 f) ∧ w'.cell? ⟨w.heap.size, 2, none⟩ = some (.bool o))) (by kernel_rfl) (by exact ⟨P.at 0 rfl, P.at 1 rfl, P.at 2 rfl⟩) (fun hHeld0 => ?_)
  refine tk 0 7 rfl hHeld0 ?_
  refine tk 1 8 rfl hHeld0 ?_
  refine tk 3 10 rfl hHeld0 ?_
  refine tk 4 11 rfl hHeld0 ?_
  refine tk 5 12 rfl hHeld0 ?_
  refine tk 6 13 rfl hHeld0 ?_
  refine tk 8 15 rfl hHeld0 ?_
  refine tk 9 16 rfl hHeld0 ?_
  refine wpAnyH_ready (rs := [2]) (by kernel_rfl) (by simp) (AllReadyH.cons (o := ⟨some 9, _, _, _, _, _⟩) rfl (fun K hK => ?_) AllReadyH.nil)
  go_simp
  (refine (kclone_any l HWF.out A n c HL.out _ R.1 (by omega)).mono ?_; rintro e w2 ⟨A2, c2, rfl, hown, hb⟩; have R2 : KRd w2 ⟨⟨l, f, o⟩, A2, n, c2⟩ := KRd.of_own hown HWF.out; replace P := P.belowH hb; replace V := V.belowH hb; replace Z := Z.belowH hb; replace bl := bl.trans (hb.mono bl.size); clear hb R hown; have v0 := V.at 0 rfl; have v1 := V.at 1 rfl; have v2 := V.at 2 rfl; have vc := V.cold)
  go_simp
  refine hK.out _ _ (by exact ⟨P.at 0 rfl, P.at 1 rfl, P.at 2 rfl⟩) (fun hHeld1 => ?_)
  clear hK hHeld0 K
  try simp only [Act.put, sA, sB, sC]
  refine tk 7 14 rfl hHeld1 ?_
  refine wpAnyH_ready (rs := [10]) (by kernel_rfl) (by simp) (AllReadyH.cons (o := ⟨none, _, _, _, _, _⟩) rfl (fun K hK => ?_) AllReadyH.nil)
  go_simp
  (have R3 := R2.box3 V (.slice A2 n c2) (.int .i64 f) (.bool o); replace P := P.other3' (show w.heap.size ≠ w.heap.size + 1 by omega) (.slice A2 n c2) (.int .i64 f) (.bool o); replace Z := Z.other3' (show w.heap.size + 1 + 1 ≠ w.heap.size + 1 by omega) (.slice A2 n c2) (.int .i64 f) (.bool o); replace V := V.three (.slice A2 n c2) (.int .i64 f) (.bool o); replace bl := below_three bl (show w.heap.size ≤ w.heap.size + 1 by omega) (.slice A2 n c2) (.int .i64 f) (.bool o); clear v0 v1 v2 vc R2; generalize ((w2.setCell ⟨w.heap.size + 1, 0, none⟩ (.slice A2 n c2)).setCell ⟨w.heap.size + 1, 1, none⟩ (.int .i64 f)).setCell ⟨w.heap.size + 1, 2, none⟩ (.bool o) = w3 at *; have z0 := Z.at 0 rfl; have z1 := Z.at 1 rfl; have z2 := Z.at 2 rfl; have zc := Z.cold)
  go_simp
  refine hK.out _ _ (by exact ⟨P.at 0 rfl, P.at 1 rfl, P.at 2 rfl⟩) (fun hHeld2 => ?_)
  clear hK hHeld1 K
  try simp only [Act.put, sA, sB, sC]
  refine wpAnyH_ready (rs := [11]) (by kernel_rfl) (by simp) (AllReadyH.cons (o := ⟨none, _, _, _, _, _⟩) rfl (fun K hK => ?_) AllReadyH.nil)
  go_simp
  (have R4 := R3.box3 Z (.int .i64 0) (.int .i64 0) (.string ⟨#[]⟩); replace P := P.other3' (show w.heap.size ≠ w.heap.size + 1 + 1 by omega) (.int .i64 0) (.int .i64 0) (.string ⟨#[]⟩); replace V := V.other3' (show w.heap.size + 1 ≠ w.heap.size + 1 + 1 by omega) (.int .i64 0) (.int .i64 0) (.string ⟨#[]⟩); replace Z := Z.three (.int .i64 0) (.int .i64 0) (.string ⟨#[]⟩); replace bl := below_three bl (show w.heap.size ≤ w.heap.size + 1 + 1 by omega) (.int .i64 0) (.int .i64 0) (.string ⟨#[]⟩); clear z0 z1 z2 zc R3; generalize ((w3.setCell ⟨w.heap.size + 1 + 1, 0, none⟩ (.int .i64 0)).setCell ⟨w.heap.size + 1 + 1, 1, none⟩ (.int .i64 0)).setCell ⟨w.heap.size + 1 + 1, 2, none⟩ (.string ⟨#[]⟩) = w4 at *)
  go_simp
  refine hK.out _ _ (by exact ⟨P.at 0 rfl, P.at 1 rfl, P.at 2 rfl⟩) (fun hHeld3 => ?_)
  clear hK hHeld2 K
  try simp only [Act.put, sA, sB, sC]
  refine tk 12 6 rfl hHeld3 ?_
  refine wpAnyH_done (by kernel_rfl) ?_ _
  have k0 := V.at 0 rfl
  have k1 := V.at 1 rfl
  have k2 := V.at 2 rfl
  have r0 := Z.at 0 rfl
  have r1 := Z.at 1 rfl
  have r2 := Z.at 2 rfl
  go_wp2
  refine bodyPost_ret (v := .tuple #[.agg #[.slice A2 n c2, .int .i64 f, .bool o], .agg #[.int .i64 0, .int .i64 0, .string ⟨#[]⟩], .int .i64 er]) (by simp [results, Try.results37, go_sem, k0, k1, k2, r0, r1, r2]; try rfl) rfl ⟨⟨_, _, _, rfl, R4⟩, bl⟩
end Go.Proofs.Ytipccalbhlhljaa

