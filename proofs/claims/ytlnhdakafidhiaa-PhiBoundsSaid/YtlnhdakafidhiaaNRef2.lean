/- The document's arrivals. -/
import Derived.Test.YtlnhdakafidhiaaNRef
import Derived.Deep.AppendLies
import Derived.Deep.DeepCutAuto
namespace Go.Proofs.Ytlnhdakafidhiaa
set_option linter.unusedVariables false
set_option linter.unusedSimpArgs false
open Go.RowKit

theorem litN (w : World) : (w.alloc (.cells #[] 3)).ownsRow w.heap.size 3 1 (.slice (some ⟨w.heap.size, 0, none⟩) 0 0) 0 [] := by
  have := World.ownsRow_lit (base := w.heap.size) (e := 3) (size := 1) w #[] 0 (Nat.le_refl _) (by decide) rfl
  simpa using this
theorem I_one (l : List Int) : ∀ u ∈ I l, u.oneCell' = true := by
  intro u hu
  obtain ⟨x, _, rfl⟩ := List.mem_map.1 hu
  rfl
theorem I_append (l m : List Int) : I (l ++ m) = I l ++ I m := by simp [I]
theorem own_block {w : World} {base e size n c : Nat} {A : Option Addr} {xs : List Value} (h : w.ownsRow base e size (.slice A n c) n xs) {ad : Addr} (hA : A = some ad) : base ≤ ad.block := by
  rcases h.2 with ⟨e1, _⟩ | ⟨g, cap, cur, hv, hb, _⟩
  · subst hA; simp at e1
  · subst hA
    obtain ⟨rfl, rfl⟩ : ad = ⟨g, 0, none⟩ ∧ c = cap := by simpa using hv
    exact hb
/-- a box beside a row that grew -/
theorem Box.grown {w w' : World} {b : Nat} {T : TypeId} {cs : Array Value} (h : Box w b T cs) {row : Option Nat} (hg : w.grownBy w' row) (hne : row ≠ some b) : Box w' b T cs :=
  (hg.block b h.lt (fun e => hne e.symm)).trans h
/-- a row's reading behind a store into another block -/
theorem rd_far {w : World} {base e n c bz o1 : Nat} {A : Option Addr} {l : List Int} {v1 : Value} (h : w.ownsRow base e 1 (.slice A n c) n (I l)) (hz : Value.ownBlock (.slice A n c) ≠ some bz) : Rd (w.setCell ⟨bz, o1, none⟩ v1) w.heap.size 1 A n (I l) := by
  have hr := Rd.of_own h
  refine hr.other (fun b o hA e => hz ?_) v1
  subst hA e
  rfl
/-- a window whose gaps were made, behind the alloc of its box and two stores below -/
theorem made_far {w3 : World} {base e n c bz o1 o2 : Nat} {A : Option Addr} {x : Wi} {ob : Obj} {v1 v2 : Value} (h : w3.ownsRow base e 1 (.slice A n c) n (I x.gaps)) (hz : bz < base) : WRd (((w3.alloc ob).setCell ⟨bz, o1, none⟩ v1).setCell ⟨bz, o2, none⟩ v2) ⟨x, A, n, c⟩ := by
  have hr := (Rd.of_own h).alloc (Nat.le_refl _) ob
  have hne : ∀ b o, A = some ⟨b, o, none⟩ → b ≠ bz := fun b o hA => by have : base ≤ b := own_block h hA; omega
  refine ⟨((hr.other hne v1).other hne v2).more (by simp), (own_cap h).1, (own_cap h).2⟩
theorem cut_block {A : Option Addr} {c k size : Nat} {ad : Addr} (h : cutA A c k size = some ad) : ∃ ad', A = some ad' ∧ ad'.block = ad.block := by
  unfold cutA at h
  split at h
  · exact ⟨ad, h, rfl⟩
  · rcases A with _ | a
    · simp at h
    · simp only [Option.map_some, Option.some.injEq] at h
      refine ⟨a, rfl, ?_⟩
      subst h
      unfold Addr.add
      split <;> rfl
theorem two_far {w : World} {n c bz o1 o2 : Nat} {A : Option Addr} {x : Wi} {v1 v2 : Value} (h : Rd w w.heap.size 1 A n (I x.gaps)) (hne : ∀ b o, A = some ⟨b, o, none⟩ → b ≠ bz) (hc : n ≤ c ∧ c ≤ 9223372036854775807) : WRd ((w.setCell ⟨bz, o1, none⟩ v1).setCell ⟨bz, o2, none⟩ v2) ⟨x, A, n, c⟩ :=
  ⟨((h.other hne v1).other hne v2).more (by simp), hc.1, hc.2⟩
def arr (x : Wi) (now most : Int) : Wi × Int := if N.may x now then (N.next x now most, 0) else (x, 1)
theorem arr_no {x : Wi} {now most : Int} (h : ¬ N.may x now) : arr x now most = (x, 1) := by unfold arr; rw [if_neg h]
theorem arr_yes {x : Wi} {now most : Int} (h : N.may x now) : arr x now most = (N.next x now most, 0) := by unfold arr; rw [if_pos h]

set_option maxHeartbeats 4000000 in
set_option maxRecDepth 20000 in
theorem rnarrive_any (u : Wv) (now most : Int) (hnow : -9223372036854775808 ≤ now ∧ now ≤ 9223372036854775807) (hmost : -9223372036854775808 ≤ most ∧ most ≤ 9223372036854775807) (w : World) (h : WRd w u) :
    Calls Try.prog 22 #[wval u, .int .i64 now, .int .i64 most] w (WinR (arr u.x now most).1 (arr u.x now most).2 w) := by
  obtain ⟨⟨last, l⟩, A, n, c⟩ := u
  have H := Lib.hid h
  have hl : l.length = n := h.len
  have HL := Lib.hid hl
  clear hl
  simp only [wval]
  have X := (Box.new w #[.int .i64 last, .slice A n c] 24).alloc (.cells #[.int .i64 0, .slice none 0 0] 24)
  have Z := Box.new (w.alloc (.cells #[.int .i64 last, .slice A n c] 24)) #[.int .i64 0, .slice none 0 0] 24
  rw [show (w.alloc (.cells #[.int .i64 last, .slice A n c] 24)).heap.size = w.heap.size + 1 by simp] at Z
  have b := ((Below.refl w.heap.size w).alloc (Nat.le_refl _) (.cells #[.int .i64 last, .slice A n c] 24)).alloc (by simp) (.cells #[.int .i64 0, .slice none 0 0] 24)
  have h1 := h.belowH b
  by_cases hm : N.may ⟨last, l⟩ now
  · rw [arr_yes hm]
    have hr := rightB_yes hm.1
    have hn16 : n ≤ 16 := by have h3 : l.length ≤ 16 := hm.1.2.2.1; have := HL.out; omega
    have m1 : 0 ≤ now := hm.2.1
    have m2 : last ≤ now := hm.2.2.1
    have m3 : now ≤ 1099511627776 := hm.2.2.2
    have m4 : -1 ≤ last := hm.1.1
    have HR := Lib.hid hr
    clear hr hm
    by_cases hl0 : last < 0
    · have en : N.next ⟨last, l⟩ now most = ⟨now, l⟩ := by unfold N.next N.more; rw [if_pos hl0, N.keep_short (by show l.length ≤ 16; rw [HL.out]; exact hn16)]
      rw [en]
      clear en
      go_enter Try.func22, Try.ntmps22
      go_wp2_with fail
      refine (rnright_any ⟨⟨last, l⟩, A, n, c⟩ _ h1).mono ?_
      rw [HR.out]
      rintro e w2 ⟨rfl, hb⟩
      replace X := X.belowH hb
      replace Z := Z.belowH hb
      replace h1 := h1.belowH hb
      replace b := b.trans (hb.mono b.size)
      clear hb h
      have x0 := X.at 0 rfl
      have x1 := X.at 1 rfl
      have hr1 : Rd (w2.alloc (.cells #[] 3)) (w2.alloc (.cells #[] 3)).heap.size 1 A n (I l) := (h1.1.alloc (Nat.le_refl _) _).more (by simp)
      have a0 := (X.alloc (.cells #[] 3)).at 0 rfl
      have a1 := (X.alloc (.cells #[] 3)).at 1 rfl
      go_wp2_with (at_builtin; refine app_law0 i64N rfl (.tmp 28) (.tmp 30) rfl w2.heap.size rfl (litN w2) rfl hr1 (I_one _) (by omega) (by omega) (by simp) ?_; rintro A2 c2 w3 ⟨hown, hg, _, _⟩; have hb3 := below_app ((Below.refl w2.heap.size w2).alloc (Nat.le_refl _) _) (litN w2) hg (Nat.le_refl _) (by simp); rw [List.nil_append] at hown; clear hg hr1 a0 a1 x0 x1; have hXlt := X.lt; have hZlt := Z.lt; replace X := X.belowH hb3; replace Z := Z.belowH hb3; replace b := b.trans (hb3.mono b.size); have hs3 := hb3.size; clear hb3; have Y := Box.new w3 #[.int .i64 now, .slice A2 n c2] 24; have hb4 := b.alloc b.size (.cells #[.int .i64 now, .slice A2 n c2] 24); replace X := X.alloc (.cells #[.int .i64 now, .slice A2 n c2] 24); replace Z := Z.alloc (.cells #[.int .i64 now, .slice A2 n c2] 24); have x0 := X.at 0 rfl; have y0 := Y.at 0 rfl; have y1 := Y.at 1 rfl; have z0 := Z.at 0 rfl; have z1 := Z.at 1 rfl; have zc := Z.cold)
      have Z2 := (Z.set 0 (.int .i64 now)).set 1 (.slice A2 n c2)
      have b2 := below_set (o := 1) (below_set (o := 0) hb4 (show w.heap.size ≤ w.heap.size + 1 by omega) (.int .i64 now)) (show w.heap.size ≤ w.heap.size + 1 by omega) (.slice A2 n c2)
      have q0 := Z2.at 0 rfl
      have q1 := Z2.at 1 rfl
      refine bodyPost_ret (v := .tuple #[.agg #[.int .i64 now, .slice A2 n c2], .int .i64 0]) (by simp [results, Try.results22, go_sem, q0, q1]; try rfl) rfl ⟨⟨A2, n, c2, rfl, made_far hown (by omega), fun _ bk o hA => by have h9 : w2.heap.size ≤ bk := own_block hown hA; omega⟩, b2⟩
    · obtain ⟨G, eG⟩ : ∃ G, max 1 (min (now - last) most) = G := ⟨_, rfl⟩
      have hmore : N.more ⟨last, l⟩ now most = l ++ [G] := by unfold N.more N.gap; rw [if_neg hl0, eG]
      have HM := Lib.hid hmore
      clear hmore
      go_enter Try.func22, Try.ntmps22
      go_upto_region 5 with (first
        | (go_at_call 18; refine (rnright_any ⟨⟨last, l⟩, A, n, c⟩ _ h1).mono ?_; rw [HR.out]; rintro e w2 ⟨rfl, hb⟩; replace X := X.belowH hb; replace Z := Z.belowH hb; replace h1 := h1.belowH hb; replace b := b.trans (hb.mono b.size); clear hb h; have x0 := X.at 0 rfl; have x1 := X.at 1 rfl; have hr1 : Rd (w2.alloc (.cells #[] 3)) (w2.alloc (.cells #[] 3)).heap.size 1 A n (I l) := (h1.1.alloc (Nat.le_refl _) _).more (by simp); have a0 := (X.alloc (.cells #[] 3)).at 0 rfl; have a1 := (X.alloc (.cells #[] 3)).at 1 rfl)
        | (at_builtin; refine app_law0 i64N rfl (.tmp 28) (.tmp 30) rfl w2.heap.size rfl (litN w2) rfl hr1 (I_one _) (by omega) (by omega) (by simp) ?_; rintro A2 c2 w3 ⟨hown, hg, _, _⟩; have hb3 := below_app ((Below.refl w2.heap.size w2).alloc (Nat.le_refl _) _) (litN w2) hg (Nat.le_refl _) (by simp); rw [List.nil_append] at hown; clear hg hr1 a0 a1 x0 x1; have hXlt := X.lt; have hZlt := Z.lt; replace X := X.belowH hb3; replace Z := Z.belowH hb3; replace b := b.trans (hb3.mono b.size); have hs3 := hb3.size; clear hb3; have Y := Box.new w3 #[.int .i64 now, .slice A2 n c2] 24; have hb4 := b.alloc b.size (.cells #[.int .i64 now, .slice A2 n c2] 24); replace X := X.alloc (.cells #[.int .i64 now, .slice A2 n c2] 24); replace Z := Z.alloc (.cells #[.int .i64 now, .slice A2 n c2] 24); have x0 := X.at 0 rfl; have y0 := Y.at 0 rfl; have y1 := Y.at 1 rfl; have z0 := Z.at 0 rfl; have z1 := Z.at 1 rfl; have zc := Z.cold))
      have yc := Y.cold
      have hown2 := (hown.alloc (.cells #[.int .i64 now, .slice A2 n c2] 24)).alloc (.cells #[.int .i64 G] 3)
      have hone := Rd.one (w3.alloc (.cells #[.int .i64 now, .slice A2 n c2] 24)) (.int .i64 G) 3
      rw [show (w3.alloc (.cells #[.int .i64 now, .slice A2 n c2] 24)).heap.size = w3.heap.size + 1 by simp] at hone
      have hYr : Value.ownBlock (.slice A2 n c2) ≠ some w3.heap.size := fun e => by have := (hown.lt _ e).2; omega
      go_upto_region 6 with (at_builtin; refine app_law i64N rfl (.tmp 37) (.tmp 45) rfl w2.heap.size rfl hown2 rfl hone (one_int _ _) (by omega) (by omega) (by simp; omega) ?_; rintro A3 c3 w5 ⟨hown5, hg, hloc, _⟩; have hb5 := below_app (Below.refl w2.heap.size _) hown2 hg (Nat.le_refl _) (by simp; omega); have X5 := (X.alloc (.cells #[.int .i64 G] 3)).below hb5 hXlt; have Z5 := (Z.alloc (.cells #[.int .i64 G] 3)).below hb5 hZlt; have Y5 := (Y.alloc (.cells #[.int .i64 G] 3)).grown hg hYr; have b5 := (hb4.alloc hb4.size (.cells #[.int .i64 G] 3)).trans (hb5.mono (by omega)); clear hg hb5 x0 y0 y1 z0 z1 zc yc hown2 hone; have y1 := Y5.at 1 rfl; have yc := Y5.cold)
      have hl5 : ∀ ad, A3 = some ad → w2.heap.size ≤ ad.block := fun ad hA => own_block hown5 hA
      have hn8 : Value.ownBlock (.slice A3 (n + 1) c3) ≠ some w3.heap.size := by
        rcases hloc with e | e
        · rw [e]; exact hYr
        · rw [e]; intro e2; simp at e2; (try omega)
      have hn8' : ∀ bk o, A3 = some ⟨bk, o, none⟩ → bk ≠ w3.heap.size := fun bk o hA e => hn8 (by subst hA e; rfl)
      have R5 := Rd.of_own hown5
      rw [show I l ++ [Value.int .i64 G] = I (l ++ [G]) by simp [I]] at R5
      have cap5 := own_cap hown5
      have R6 := R5.other hn8' (o := 1) (.slice A3 (n + 1) c3)
      have X6 := X5.other (show w.heap.size ≠ w3.heap.size by omega) (o := 1) (.slice A3 (n + 1) c3)
      have Z6 := Z5.other (show w.heap.size + 1 ≠ w3.heap.size by omega) (o := 1) (.slice A3 (n + 1) c3)
      have Y6 := Y5.set 1 (.slice A3 (n + 1) c3)
      have b6 := below_set (o := 1) b5 (show w.heap.size ≤ w3.heap.size by omega) (.slice A3 (n + 1) c3)
      have hlt8 : w.heap.size + 1 < w3.heap.size := by omega
      have hs6 : (w5.setCell ⟨w3.heap.size, 1, none⟩ (.slice A3 (n + 1) c3)).heap.size = w5.heap.size := by simp
      rw [← hs6] at R6
      clear hown5 hloc hn8 R5 X5 Z5 Y5 b5 y1 yc hs6 hYr hown Y hb4
      generalize w5.setCell ⟨w3.heap.size, 1, none⟩ (.slice A3 (n + 1) c3) = w6 at *
      simp only [sA, sB, sC] at Y6
      generalize w3.heap.size = b8 at *
      have y0 := Y6.at 0 rfl
      have y1 := Y6.at 1 rfl
      have yc := Y6.cold
      have z0 := Z6.at 0 rfl
      have z1 := Z6.at 1 rfl
      have zc := Z6.cold
      clear X Z X6
      by_cases h16 : n = 16
      · subst h16
        have en : N.next ⟨last, l⟩ now most = ⟨now, (l ++ [G]).drop 1⟩ := by unfold N.next; rw [HM.out, N.keep_long (by rw [List.length_append, HL.out]; rfl)]
        have EN := Lib.hid en
        have hcut : ∀ w, (Instr.slice 22 (.slice A3 (16 + 1) c3) (some (.int .i64 1)) none none).run Try.prog w = .ok (.slice (cutA A3 c3 1 1) 16 (c3 - 1)) w := fun w => run_cut_l i64N w A3 17 c3 1 1 rfl (by omega)
        clear en
        go_wp2
        rw [EN.out]
        have b7 := below_set (o := 1) b6 (show w.heap.size ≤ b8 by omega) (.slice (cutA A3 c3 1 1) 16 (c3 - 1))
        have Z7 := Z6.other (show w.heap.size + 1 ≠ b8 by omega) (o := 1) (.slice (cutA A3 c3 1 1) 16 (c3 - 1))
        have R7 := R6.other hn8' (o := 1) (.slice (cutA A3 c3 1 1) 16 (c3 - 1))
        have hs7 : (w6.setCell ⟨b8, 1, none⟩ (.slice (cutA A3 c3 1 1) 16 (c3 - 1))).heap.size = w6.heap.size := by simp
        rw [← hs7] at R7
        have R8 := R7.cut1 (k := 1) (cap := c3) (by omega) (by omega)
        rw [show (I (l ++ [G])).drop 1 = I ((l ++ [G]).drop 1) by simp [I, List.map_drop]] at R8
        have hc8 : ∀ bk o, cutA A3 c3 1 1 = some ⟨bk, o, none⟩ → bk ≠ w.heap.size + 1 := fun bk o hA => by
          obtain ⟨ad, hA', e⟩ := cut_block hA
          have := hl5 ad hA'
          have e : ad.block = bk := e
          omega
        replace Z := Z7
        have Z2 := (Z.set 0 (.int .i64 now)).set 1 (.slice (cutA A3 c3 1 1) 16 (c3 - 1))
        have b2 := below_set (o := 1) (below_set (o := 0) b7 (show w.heap.size ≤ w.heap.size + 1 by omega) (.int .i64 now)) (show w.heap.size ≤ w.heap.size + 1 by omega) (.slice (cutA A3 c3 1 1) 16 (c3 - 1))
        have q0 := Z2.at 0 rfl
        have q1 := Z2.at 1 rfl
        refine bodyPost_ret (v := .tuple #[.agg #[.int .i64 now, .slice (cutA A3 c3 1 1) 16 (c3 - 1)], .int .i64 0]) (by simp [results, Try.results22, go_sem, q0, q1]; try rfl) rfl ⟨⟨cutA A3 c3 1 1, 16, c3 - 1, rfl, two_far R8 hc8 ⟨by omega, by omega⟩, fun _ bk o hA => by (obtain ⟨ad, hA8, e8⟩ := cut_block hA; have h9 := hl5 ad hA8; have e8 : ad.block = bk := e8; omega)⟩, b2⟩
      · have hn15 : n + 1 ≤ 16 := by omega
        have hnI : ¬ (16 : Int) < (n : Int) + 1 := by omega
        have en : N.next ⟨last, l⟩ now most = ⟨now, l ++ [G]⟩ := by unfold N.next; rw [HM.out, N.keep_short (by rw [List.length_append, HL.out]; exact hn15)]
        have EN := Lib.hid en
        clear en
        go_wp2
        rw [EN.out]
        replace Z := Z6
        have Z2 := (Z.set 0 (.int .i64 now)).set 1 (.slice A3 (n + 1) c3)
        have b2 := below_set (o := 1) (below_set (o := 0) b6 (show w.heap.size ≤ w.heap.size + 1 by omega) (.int .i64 now)) (show w.heap.size ≤ w.heap.size + 1 by omega) (.slice A3 (n + 1) c3)
        have q0 := Z2.at 0 rfl
        have q1 := Z2.at 1 rfl
        refine bodyPost_ret (v := .tuple #[.agg #[.int .i64 now, .slice A3 (n + 1) c3], .int .i64 0]) (by simp [results, Try.results22, go_sem, q0, q1]; try rfl) rfl ⟨⟨A3, n + 1, c3, rfl, two_far R6 (fun bk o hA => by have : w2.heap.size ≤ bk := hl5 _ hA; omega) cap5, fun _ bk o hA => by have : w2.heap.size ≤ bk := hl5 _ hA; omega⟩, b2⟩
  · rw [arr_no hm]
    by_cases hr : N.right ⟨last, l⟩
    · have HR := Lib.hid (rightB_yes hr)
      have hbad : now < 0 ∨ 0 ≤ now ∧ now < last ∨ 0 ≤ now ∧ last ≤ now ∧ 1099511627776 < now := by
        have : ¬ (0 ≤ now ∧ last ≤ now ∧ now ≤ 1099511627776) := fun h => hm ⟨hr, h⟩
        omega
      clear hm hr
      rcases hbad with hb1 | ⟨hb1, hb2⟩ | ⟨hb1, hb2, hb3⟩
      all_goals
        go_enter Try.func22, Try.ntmps22
        go_wp2_with fail
        refine (rnright_any ⟨⟨last, l⟩, A, n, c⟩ _ h1).mono ?_
        rw [HR.out]
        rintro e w2 ⟨rfl, hb⟩
        replace X := X.belowH hb
        replace Z := Z.belowH hb
        replace h1 := h1.belowH hb
        replace b := b.trans (hb.mono b.size)
        clear hb h
        have x0 := X.at 0 rfl
        have x1 := X.at 1 rfl
        have z0 := Z.at 0 rfl
        have z1 := Z.at 1 rfl
        have zc := Z.cold
        go_wp2
        have Z2 := (Z.set 0 (.int .i64 last)).set 1 (.slice A n c)
        have b2 := below_set (o := 1) (below_set (o := 0) b (show w.heap.size ≤ w.heap.size + 1 by omega) (.int .i64 last)) (show w.heap.size ≤ w.heap.size + 1 by omega) (.slice A n c)
        have q0 := Z2.at 0 rfl
        have q1 := Z2.at 1 rfl
        refine bodyPost_ret (v := .tuple #[.agg #[.int .i64 last, .slice A n c], .int .i64 1]) (by simp [results, Try.results22, go_sem, q0, q1]; try rfl) rfl ⟨⟨A, n, c, rfl, H.out.belowH b2, fun h => by cases h⟩, b2⟩
    · have HR := Lib.hid (rightB_no hr)
      clear hm hr
      go_enter Try.func22, Try.ntmps22
      go_wp2_with fail
      refine (rnright_any ⟨⟨last, l⟩, A, n, c⟩ _ h1).mono ?_
      rw [HR.out]
      rintro e w2 ⟨rfl, hb⟩
      replace X := X.belowH hb
      replace Z := Z.belowH hb
      replace h1 := h1.belowH hb
      replace b := b.trans (hb.mono b.size)
      clear hb h
      have x0 := X.at 0 rfl
      have x1 := X.at 1 rfl
      have z0 := Z.at 0 rfl
      have z1 := Z.at 1 rfl
      have zc := Z.cold
      go_wp2
      have Z2 := (Z.set 0 (.int .i64 last)).set 1 (.slice A n c)
      have b2 := below_set (o := 1) (below_set (o := 0) b (show w.heap.size ≤ w.heap.size + 1 by omega) (.int .i64 last)) (show w.heap.size ≤ w.heap.size + 1 by omega) (.slice A n c)
      have q0 := Z2.at 0 rfl
      have q1 := Z2.at 1 rfl
      refine bodyPost_ret (v := .tuple #[.agg #[.int .i64 last, .slice A n c], .int .i64 1]) (by simp [results, Try.results22, go_sem, q0, q1]; try rfl) rfl ⟨⟨A, n, c, rfl, H.out.belowH b2, fun h => by cases h⟩, b2⟩
end Go.Proofs.Ytlnhdakafidhiaa
