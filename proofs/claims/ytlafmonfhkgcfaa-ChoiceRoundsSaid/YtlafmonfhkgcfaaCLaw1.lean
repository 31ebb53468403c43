/- The walk of choice's law on rounds. -/
import Derived.Test.YtlafmonfhkgcfaaCGreat
import Derived.Deep.QuietTactic
namespace Go.Proofs.Ytlafmonfhkgcfaa
set_option linter.unusedVariables false
set_option linter.unusedSimpArgs false
open Go.RowKit
set_option maxHeartbeats 8000000 in
set_option maxRecDepth 100000 in
theorem law_ChoiceRounds (u : Tl) (p q r m : Int) (W : World) (w0 : TlIn W u) (w1 : ThreeU p q r) (w2 : (Lit.int .i64 m).wf = true) :
    Calls Try.prog 3 #[tval u, .agg #[.int .u32 p, .int .u32 q, .int .u32 r], .int .i64 m] W fun e w' => e = .returned (.bool true) ∧ Below W.heap.size W w' := by
  clear w2
  obtain ⟨al, dn, sd, A1, n1, c1, A2, n2, c2, A3, n3, c3⟩ := u
  obtain ⟨⟨h1, z1⟩, ⟨h2, z2⟩, ⟨h3, z3⟩⟩ := w0
  obtain ⟨⟨p', hp, hp2⟩, ⟨q', hq, hq2⟩, ⟨r', hr, hr2⟩⟩ : (∃ p' : Nat, (p' : Int) = p ∧ p' ≤ 4294967295) ∧ (∃ q' : Nat, (q' : Int) = q ∧ q' ≤ 4294967295) ∧ (∃ r' : Nat, (r' : Int) = r ∧ r' ≤ 4294967295) := ⟨w1.1.nat, w1.2.1.nat, w1.2.2.nat⟩
  have HZ : Hid ((p' : Int) = p ∧ (q' : Int) = q ∧ (r' : Int) = r) := Lib.hid ⟨hp, hq, hr⟩
  have HB : Hid (p' ≤ 4294967295 ∧ q' ≤ 4294967295 ∧ r' ≤ 4294967295) := Lib.hid ⟨hp2, hq2, hr2⟩
  clear hp hq hr hp2 hq2 hr2 w1
  simp only at h1 h2 h3 z1 z2 z3
  have L1 := Lib.hid (ilen h1)
  have L2 := Lib.hid (ilen h2)
  have L3 := Lib.hid (ilen h3)
  have HG := Lib.hid (And.intro z1 (And.intro z2 z3))
  clear z1 z2 z3
  simp only [tval]
  have X := (Box.new W #[.slice A1 n1 c1, .slice A2 n2 c2, .slice A3 n3 c3] 24).alloc (.cells #[.int .u32 p, .int .u32 q, .int .u32 r] 26)
  have D := Box.new (W.alloc (.cells #[.slice A1 n1 c1, .slice A2 n2 c2, .slice A3 n3 c3] 24)) #[.int .u32 p, .int .u32 q, .int .u32 r] 26
  have b := ((Below.refl W.heap.size W).alloc (Nat.le_refl _) (.cells #[.slice A1 n1 c1, .slice A2 n2 c2, .slice A3 n3 c3] 24)).alloc (by simp) (.cells #[.int .u32 p, .int .u32 q, .int .u32 r] 26)
  rw [show (W.alloc (.cells #[.slice A1 n1 c1, .slice A2 n2 c2, .slice A3 n3 c3] 24)).heap.size = W.heap.size + 1 by simp] at D
  replace h1 := h1.belowH b
  replace h2 := h2.belowH b
  replace h3 := h3.belowH b
  go_enter Try.func3, Try.ntmps3
  go_wp2_with fail
  generalize (W.alloc (.cells #[.slice A1 n1 c1, .slice A2 n2 c2, .slice A3 n3 c3] 24)).alloc (.cells #[.int .u32 p, .int .u32 q, .int .u32 r] 26) = wa at *
  refine (calive_any _).mono ?_
  rintro _ wb ⟨rfl, hb⟩
  replace h1 := h1.belowH hb
  replace h2 := h2.belowH hb
  replace h3 := h3.belowH hb
  replace X := X.belowH hb
  replace D := D.belowH hb
  replace b := b.trans (hb.mono b.size)
  clear hb
  have x0 := X.at 0 rfl
  have x1 := X.at 1 rfl
  have x2 := X.at 2 rfl
  have d0 := D.at 0 rfl
  have d1 := D.at 1 rfl
  have d2 := D.at 2 rfl
  by_cases hg : 200 < n1 + n2 + n3
  · have E := Lib.hid (decide_eq_true hg)
    go_wp2_with fail
    refine (cgreat_any al dn sd A1 A2 A3 n1 c1 n2 c2 n3 c3 HG.out E.out _).mono ?_
    rintro _ wc ⟨rfl, hb⟩
    replace b := b.trans (hb.mono b.size)
    clear hb
    go_wp2
    go_ret
    exact ⟨rfl, b⟩
  have E := Lib.hid (decide_eq_false hg)
  go_wp2_with fail
  refine (cgreat_any al dn sd A1 A2 A3 n1 c1 n2 c2 n3 c3 HG.out E.out _).mono ?_
  rintro _ wc ⟨rfl, hb⟩
  clear x0 x1 x2 d0 d1 d2
  replace h1 := h1.belowH hb
  replace h2 := h2.belowH hb
  replace h3 := h3.belowH hb
  replace X := X.belowH hb
  replace D := D.belowH hb
  replace b := b.trans (hb.mono b.size)
  clear hb
  have x0 := X.at 0 rfl
  have x1 := X.at 1 rfl
  have x2 := X.at 2 rfl
  have d0 := D.at 0 rfl
  have d1 := D.at 1 rfl
  have d2 := D.at 2 rfl
  obtain ⟨f1, hf1⟩ : ∃ f, cfirst al p' = f := ⟨_, rfl⟩
  obtain ⟨s1, hs1⟩ : ∃ z, csome al = z := ⟨_, rfl⟩
  obtain ⟨lr, hlr⟩ : ∃ l, Ch.round al dn sd p' q' r' = l := ⟨_, rfl⟩
  obtain ⟨lw, hlw⟩ : ∃ l, Ch.without al m = l := ⟨_, rfl⟩
  obtain ⟨lu, hlu⟩ : ∃ l, Ch.rising sd = l := ⟨_, rfl⟩
  obtain ⟨bh, hbh⟩ : ∃ z, decide (m ∈ dn) = z := ⟨_, rfl⟩
  have LR3 : Hid (lr.length ≤ 3) := Lib.hid (by rw [← hlr]; exact Ch.round_len _ _ _ _ _ _)
  have LW3 : Hid (lw.length ≤ n1) := Lib.hid (by rw [← hlw, ← L1.out]; exact Ch.without_le _ _)
  have LU3 : Hid (lu.length ≤ n3) := Lib.hid (by rw [← hlu, ← L3.out]; exact Ch.rising_len _)
  have EF := Lib.hid hf1
  have ES := Lib.hid hs1
  have ER := Lib.hid hlr
  have EW := Lib.hid hlw
  have EU := Lib.hid hlu
  have EH := Lib.hid hbh
  clear hf1 hs1 hlr hlw hlu hbh
  go_wp2_with fail
  refine (cone_at HZ.out.1 EF.out ES.out A1 n1 c1 HB.out.1 _ h1 (by omega)).mono ?_
  rintro _ wd ⟨rfl, hb⟩
  clear x0 x1 x2 d0 d1 d2
  replace h1 := h1.belowH hb
  replace h2 := h2.belowH hb
  replace h3 := h3.belowH hb
  replace X := X.belowH hb
  replace D := D.belowH hb
  replace b := b.trans (hb.mono b.size)
  clear hb
  have x0 := X.at 0 rfl
  have x1 := X.at 1 rfl
  have x2 := X.at 2 rfl
  have d0 := D.at 0 rfl
  have d1 := D.at 1 rfl
  have d2 := D.at 2 rfl
  go_wp2_with fail
  refine (rcone_at HZ.out.1 EF.out ES.out A1 n1 c1 HB.out.1 _ h1 (by omega)).mono ?_
  rintro _ we ⟨rfl, hb⟩
  clear x0 x1 x2 d0 d1 d2
  replace h1 := h1.belowH hb
  replace h2 := h2.belowH hb
  replace h3 := h3.belowH hb
  replace X := X.belowH hb
  replace D := D.belowH hb
  replace b := b.trans (hb.mono b.size)
  clear hb
  have x0 := X.at 0 rfl
  have x1 := X.at 1 rfl
  have x2 := X.at 2 rfl
  have d0 := D.at 0 rfl
  have d1 := D.at 1 rfl
  have d2 := D.at 2 rfl
  have t1 : (f1 == f1) = true := by simp
  have t2 : (s1 == s1) = true := by simp
  have t3 : (bh == bh) = true := by simp
  go_wp2_with fail
  have hx : W.heap.size < we.heap.size := X.lt
  have hd : W.heap.size + 1 < we.heap.size := D.lt
  have bd : Below we.heap.size we we.drew := (Below.refl _ _).drew
  refine wp_region_held_drew (S := (fun w' => w'.cell? ⟨W.heap.size, 0, none⟩ = some (.slice A1 n1 c1) ∧ w'.cell? ⟨W.heap.size, 1, none⟩ = some (.slice A2 n2 c2) ∧ w'.cell? ⟨W.heap.size, 2, none⟩ = some (.slice A3 n3 c3) ∧ w'.cell? ⟨W.heap.size + 1, 0, none⟩ = some (.int .u32 p) ∧ w'.cell? ⟨W.heap.size + 1, 1, none⟩ = some (.int .u32 q) ∧ w'.cell? ⟨W.heap.size + 1, 2, none⟩ = some (.int .u32 r))) (by kernel_rfl) (by first | exact ⟨x0, x1, x2, d0, d1, d2⟩ | exact ⟨cell_belowC x0 bd hx, cell_belowC x1 bd hx, cell_belowC x2 bd hx, cell_belowC d0 bd hd, cell_belowC d1 bd hd, cell_belowC d2 bd hd⟩) (fun hHeld0 => ?_)
  refine tk 0 31 rfl hHeld0 ?_
  refine tk 1 32 rfl hHeld0 ?_
  refine tk 2 33 rfl hHeld0 ?_
  refine tk 3 34 rfl hHeld0 ?_
  refine tk 4 35 rfl hHeld0 ?_
  refine tk 5 36 rfl hHeld0 ?_
  refine tk 6 37 rfl hHeld0 ?_
  refine tk 7 38 rfl hHeld0 ?_
  refine tk 8 39 rfl hHeld0 ?_
  refine tk 9 40 rfl hHeld0 ?_
  refine tk 10 41 rfl hHeld0 ?_
  refine tk 11 42 rfl hHeld0 ?_
  refine tk 12 43 rfl hHeld0 ?_
  refine tk 13 44 rfl hHeld0 ?_
  refine tk 14 45 rfl hHeld0 ?_
  refine tk 15 46 rfl hHeld0 ?_
  refine tk 17 48 rfl hHeld0 ?_
  refine tk 18 49 rfl hHeld0 ?_
  refine tk 19 50 rfl hHeld0 ?_
  refine tk 20 51 rfl hHeld0 ?_
  refine tk 21 52 rfl hHeld0 ?_
  refine tk 22 53 rfl hHeld0 ?_
  refine tk 23 54 rfl hHeld0 ?_
  refine wpAnyH_ready (rs := [16]) (by kernel_rfl) (by simp) (AllReadyH.cons (o := ⟨some 47, _, _, _, _, _⟩) rfl (fun K hK => ?_) AllReadyH.nil)
  go_simp
  (refine (cround_at HZ.out ER.out A1 A2 A3 n1 c1 n2 c2 n3 c3 HB.out _ (h1.belowH bd) (h2.belowH bd) (h3.belowH bd) (by omega) (by omega) (by omega)).mono ?_; rintro _ wr0 ⟨⟨Aa, na, ca, rfl, Ra, hca⟩, hb⟩; replace bd := bd.trans (hb.mono bd.size); clear hb hca)
  go_simp
  refine hK.out _ _ (by first | exact ⟨x0, x1, x2, d0, d1, d2⟩ | exact ⟨cell_belowC x0 bd hx, cell_belowC x1 bd hx, cell_belowC x2 bd hx, cell_belowC d0 bd hd, cell_belowC d1 bd hd, cell_belowC d2 bd hd⟩) (fun hHeld1 => ?_)
  clear hK hHeld0 K
  try simp only [Act.put, sA, sB, sC]
  refine wpAnyH_ready (rs := [24]) (by kernel_rfl) (by simp) (AllReadyH.cons (o := ⟨some 55, _, _, _, _, _⟩) rfl (fun K hK => ?_) AllReadyH.nil)
  go_simp
  (refine (rcround_at HZ.out ER.out A1 A2 A3 n1 c1 n2 c2 n3 c3 HB.out _ (h1.belowH bd) (h2.belowH bd) (h3.belowH bd) (by omega) (by omega) (by omega)).mono ?_; rintro _ wr1 ⟨⟨Ab, nb, cb, rfl, Rb, hcb⟩, hb⟩; replace bd := bd.trans (hb.mono bd.size); replace Ra := Ra.belowH hb; clear hb hcb)
  go_simp
  refine hK.out _ _ (by first | exact ⟨x0, x1, x2, d0, d1, d2⟩ | exact ⟨cell_belowC x0 bd hx, cell_belowC x1 bd hx, cell_belowC x2 bd hx, cell_belowC d0 bd hd, cell_belowC d1 bd hd, cell_belowC d2 bd hd⟩) (fun hHeld2 => ?_)
  clear hK hHeld1 K
  try simp only [Act.put, sA, sB, sC]
  refine wpAnyH_ready (rs := [25]) (by kernel_rfl) (by simp) (AllReadyH.cons (o := ⟨some 56, _, _, _, _, _⟩) rfl (fun K hK => ?_) AllReadyH.nil)
  go_simp
  (refine (cints_b Aa Ab na nb ca cb _ Ra Rb (by have h9 := ilen Ra; have := LR3.out; omega)).mono ?_; rintro _ wr2 ⟨rfl, hb⟩; replace bd := bd.trans (hb.mono bd.size); clear hb Ra Rb)
  go_simp
  refine hK.out _ _ (by first | exact ⟨x0, x1, x2, d0, d1, d2⟩ | exact ⟨cell_belowC x0 bd hx, cell_belowC x1 bd hx, cell_belowC x2 bd hx, cell_belowC d0 bd hd, cell_belowC d1 bd hd, cell_belowC d2 bd hd⟩) (fun hHeld3 => ?_)
  clear hK hHeld2 K
  try simp only [Act.put, sA, sB, sC]
  refine tk 26 57 rfl hHeld3 ?_
  refine tk 27 58 rfl hHeld3 ?_
  refine tk 28 59 rfl hHeld3 ?_
  refine tk 29 60 rfl hHeld3 ?_
  refine tk 30 61 rfl hHeld3 ?_
  refine tk 32 63 rfl hHeld3 ?_
  refine tk 33 64 rfl hHeld3 ?_
  refine tk 34 65 rfl hHeld3 ?_
  refine wpAnyH_ready (rs := [31]) (by kernel_rfl) (by simp) (AllReadyH.cons (o := ⟨some 62, _, _, _, _, _⟩) rfl (fun K hK => ?_) AllReadyH.nil)
  go_simp
  (refine (cwithout_at EW.out A1 n1 c1 _ (h1.belowH bd) (by omega)).mono ?_; rintro _ wr3 ⟨⟨Ae, ne, ce, rfl, Re, hce⟩, hb⟩; replace bd := bd.trans (hb.mono bd.size); clear hb hce)
  go_simp
  refine hK.out _ _ (by first | exact ⟨x0, x1, x2, d0, d1, d2⟩ | exact ⟨cell_belowC x0 bd hx, cell_belowC x1 bd hx, cell_belowC x2 bd hx, cell_belowC d0 bd hd, cell_belowC d1 bd hd, cell_belowC d2 bd hd⟩) (fun hHeld4 => ?_)
  clear hK hHeld3 K
  try simp only [Act.put, sA, sB, sC]
  refine wpAnyH_ready (rs := [35]) (by kernel_rfl) (by simp) (AllReadyH.cons (o := ⟨some 66, _, _, _, _, _⟩) rfl (fun K hK => ?_) AllReadyH.nil)
  go_simp
  (refine (rcwithout_at EW.out A1 n1 c1 _ (h1.belowH bd) (by omega)).mono ?_; rintro _ wr4 ⟨⟨Af, nf, cf, rfl, Rf, hcf⟩, hb⟩; replace bd := bd.trans (hb.mono bd.size); replace Re := Re.belowH hb; clear hb hcf)
  go_simp
  refine hK.out _ _ (by first | exact ⟨x0, x1, x2, d0, d1, d2⟩ | exact ⟨cell_belowC x0 bd hx, cell_belowC x1 bd hx, cell_belowC x2 bd hx, cell_belowC d0 bd hd, cell_belowC d1 bd hd, cell_belowC d2 bd hd⟩) (fun hHeld5 => ?_)
  clear hK hHeld4 K
  try simp only [Act.put, sA, sB, sC]
  refine wpAnyH_ready (rs := [36]) (by kernel_rfl) (by simp) (AllReadyH.cons (o := ⟨some 67, _, _, _, _, _⟩) rfl (fun K hK => ?_) AllReadyH.nil)
  go_simp
  (refine (cints_b Ae Af ne nf ce cf _ Re Rf (by have h9 := ilen Re; have := LW3.out; omega)).mono ?_; rintro _ wr5 ⟨rfl, hb⟩; replace bd := bd.trans (hb.mono bd.size); clear hb Re Rf)
  go_simp
  refine hK.out _ _ (by first | exact ⟨x0, x1, x2, d0, d1, d2⟩ | exact ⟨cell_belowC x0 bd hx, cell_belowC x1 bd hx, cell_belowC x2 bd hx, cell_belowC d0 bd hd, cell_belowC d1 bd hd, cell_belowC d2 bd hd⟩) (fun hHeld6 => ?_)
  clear hK hHeld5 K
  try simp only [Act.put, sA, sB, sC]
  refine tk 37 68 rfl hHeld6 ?_
  refine tk 38 69 rfl hHeld6 ?_
  refine tk 39 70 rfl hHeld6 ?_
  refine tk 40 71 rfl hHeld6 ?_
  refine tk 41 72 rfl hHeld6 ?_
  refine tk 43 74 rfl hHeld6 ?_
  refine tk 44 75 rfl hHeld6 ?_
  refine tk 45 76 rfl hHeld6 ?_
  refine wpAnyH_ready (rs := [42]) (by kernel_rfl) (by simp) (AllReadyH.cons (o := ⟨some 73, _, _, _, _, _⟩) rfl (fun K hK => ?_) AllReadyH.nil)
  go_simp
  (refine (chas_b EH.out A2 n2 c2 _ (h2.belowH bd) (by omega)).mono ?_; rintro _ wr6 ⟨rfl, hb⟩; replace bd := bd.trans (hb.mono bd.size); clear hb )
  go_simp
  refine hK.out _ _ (by first | exact ⟨x0, x1, x2, d0, d1, d2⟩ | exact ⟨cell_belowC x0 bd hx, cell_belowC x1 bd hx, cell_belowC x2 bd hx, cell_belowC d0 bd hd, cell_belowC d1 bd hd, cell_belowC d2 bd hd⟩) (fun hHeld7 => ?_)
  clear hK hHeld6 K
  try simp only [Act.put, sA, sB, sC]
  refine wpAnyH_ready (rs := [46]) (by kernel_rfl) (by simp) (AllReadyH.cons (o := ⟨some 77, _, _, _, _, _⟩) rfl (fun K hK => ?_) AllReadyH.nil)
  go_simp
  (refine (rchas_b EH.out A2 n2 c2 _ (h2.belowH bd) (by omega)).mono ?_; rintro _ wr7 ⟨rfl, hb⟩; replace bd := bd.trans (hb.mono bd.size); clear hb )
  go_simp
  refine hK.out _ _ (by first | exact ⟨x0, x1, x2, d0, d1, d2⟩ | exact ⟨cell_belowC x0 bd hx, cell_belowC x1 bd hx, cell_belowC x2 bd hx, cell_belowC d0 bd hd, cell_belowC d1 bd hd, cell_belowC d2 bd hd⟩) (fun hHeld8 => ?_)
  clear hK hHeld7 K
  try simp only [Act.put, sA, sB, sC]
  refine tk 47 78 rfl hHeld8 ?_
  refine tk 48 79 rfl hHeld8 ?_
  refine tk 49 80 rfl hHeld8 ?_
  refine tk 50 81 rfl hHeld8 ?_
  refine tk 51 82 rfl hHeld8 ?_
  refine tk 53 84 rfl hHeld8 ?_
  refine tk 54 85 rfl hHeld8 ?_
  refine wpAnyH_ready (rs := [52]) (by kernel_rfl) (by simp) (AllReadyH.cons (o := ⟨some 83, _, _, _, _, _⟩) rfl (fun K hK => ?_) AllReadyH.nil)
  go_simp
  (refine (crising_at EU.out A3 n3 c3 _ (h3.belowH bd) (by omega)).mono ?_; rintro _ wr8 ⟨⟨Ag, ng, cg, rfl, Rg, hcg⟩, hb⟩; replace bd := bd.trans (hb.mono bd.size); clear hb hcg)
  go_simp
  refine hK.out _ _ (by first | exact ⟨x0, x1, x2, d0, d1, d2⟩ | exact ⟨cell_belowC x0 bd hx, cell_belowC x1 bd hx, cell_belowC x2 bd hx, cell_belowC d0 bd hd, cell_belowC d1 bd hd, cell_belowC d2 bd hd⟩) (fun hHeld9 => ?_)
  clear hK hHeld8 K
  try simp only [Act.put, sA, sB, sC]
  refine wpAnyH_ready (rs := [55]) (by kernel_rfl) (by simp) (AllReadyH.cons (o := ⟨some 86, _, _, _, _, _⟩) rfl (fun K hK => ?_) AllReadyH.nil)
  go_simp
  (refine (rcrising_at EU.out A3 n3 c3 _ (h3.belowH bd) (by omega)).mono ?_; rintro _ wr9 ⟨⟨Ak, nk, ck, rfl, Rk, hck⟩, hb⟩; replace bd := bd.trans (hb.mono bd.size); replace Rg := Rg.belowH hb; clear hb hck)
  go_simp
  refine hK.out _ _ (by first | exact ⟨x0, x1, x2, d0, d1, d2⟩ | exact ⟨cell_belowC x0 bd hx, cell_belowC x1 bd hx, cell_belowC x2 bd hx, cell_belowC d0 bd hd, cell_belowC d1 bd hd, cell_belowC d2 bd hd⟩) (fun hHeld10 => ?_)
  clear hK hHeld9 K
  try simp only [Act.put, sA, sB, sC]
  refine wpAnyH_ready (rs := [56]) (by kernel_rfl) (by simp) (AllReadyH.cons (o := ⟨some 87, _, _, _, _, _⟩) rfl (fun K hK => ?_) AllReadyH.nil)
  go_simp
  (refine (cints_b Ag Ak ng nk cg ck _ Rg Rk (by have h9 := ilen Rg; have := LU3.out; omega)).mono ?_; rintro _ wr10 ⟨rfl, hb⟩; replace bd := bd.trans (hb.mono bd.size); clear hb Rg Rk)
  go_simp
  refine hK.out _ _ (by first | exact ⟨x0, x1, x2, d0, d1, d2⟩ | exact ⟨cell_belowC x0 bd hx, cell_belowC x1 bd hx, cell_belowC x2 bd hx, cell_belowC d0 bd hd, cell_belowC d1 bd hd, cell_belowC d2 bd hd⟩) (fun hHeld11 => ?_)
  clear hK hHeld10 K
  try simp only [Act.put, sA, sB, sC]
  refine tk 57 88 rfl hHeld11 ?_
  refine tk 58 6 rfl hHeld11 ?_
  refine wpAnyH_done (by kernel_rfl) ?_ _
  go_wp2
  go_ret
  exact ⟨rfl, b.trans (bd.mono b.size)⟩
end Go.Proofs.Ytlafmonfhkgcfaa
