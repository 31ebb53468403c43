/- StateParts walks. -/
import Derived.Test.YtfpfpepejocjfaaTLaw4
import Derived.Deep.RegionLaw
namespace Go.Proofs.Ytfpfpepejocjfaa
set_option linter.unusedVariables false
set_option linter.unusedSimpArgs false
open Go.RowKit

theorem parts_join {g e : Int} {l : List Ent} {v : Int} (h : E.rising l) (he : 0 ≤ e) : S.join ⟨g, 0, S.lows l v⟩ (S.above ⟨g, e, l⟩ v) = ⟨g, e, l⟩ := by
  rw [S.join_eq (show (⟨g, 0, S.lows l v⟩ : St).gen = (S.above ⟨g, e, l⟩ v).gen from rfl)]
  exact S.St.ext rfl (by show max 0 e = e; omega) (S.join_parts h v)
theorem parts_low {g e : Int} {l : List Ent} {v : Int} (h : E.rising l) (he : 0 ≤ e) : S.over ⟨g, e, l⟩ ⟨g, 0, S.lows l v⟩ := by
  unfold S.over
  rw [S.join_eq (show (⟨g, e, l⟩ : St).gen = (⟨g, 0, S.lows l v⟩ : St).gen from rfl)]
  exact S.St.ext rfl (by show max e 0 = e; omega) (S.join_part h _)
theorem parts_high {g e : Int} {l : List Ent} {v : Int} (h : E.rising l) : S.over ⟨g, e, l⟩ (S.above ⟨g, e, l⟩ v) := by
  unfold S.over
  rw [S.join_eq (show (⟨g, e, l⟩ : St).gen = (S.above ⟨g, e, l⟩ v).gen from rfl)]
  exact S.St.ext rfl (by show max e e = e; omega) (S.join_part h _)
theorem push_step {w : World} {ops : Array Oper} {o : Oper} {a : Act} {K : Act → World → Prop} {Q : Exit → Act → World → Prop} {E : Prop} (hgd : o.guard = none) (s x : Operand)
    (ho : o.op = .call { callee := .builtin .append, args := #[s, x], argTypes := #[22, 22] })
    (base : Nat) {A : Option Addr} {m c : Nat} {O : List Ent} {y : Ent} (hs : a.eval s = .slice A m c) (hx : a.eval x = .slice (some ⟨w.heap.size, 0, none⟩) 1 1)
    (hown : w.ownsRow base 42 3 (.slice A m c) m (EC O)) (hm : m ≤ 4000000) (hbase : base ≤ w.heap.size)
    (h : ∀ A' c' w', w'.ownsRow base 42 3 (.slice A' (m + 1) c') (m + 1) (EC (O ++ [y])) → Below base w w' → K (a.put o.dst (.slice A' (m + 1) c')) w') :
    if Region.wanted o (yielded ops a.tmps) = true then Oper.wp Try.prog o a (w.alloc (.cells #[.int .i64 y.key, .int .i64 y.ver, .string (strB y.val)] 42)).drew K Q else E := by
  have hown2 := hown.alloc (.cells #[.int .i64 y.key, .int .i64 y.ver, .string (strB y.val)] 42)
  have hs2 : base ≤ (w.alloc (.cells #[.int .i64 y.key, .int .i64 y.ver, .string (strB y.val)] 42)).heap.size := by simp; omega
  refine step_app_law enT hgd s x ho base hs hown2.drew hx (Rd.drew (Rd.lit w _ _ 3 1 rfl)) (by simp [Value.oneCell']) (by omega) (by omega) hs2 fun A2 c2 w2 ap => ?_
  refine h A2 c2 w2 ?_ (below_app ((Below.refl _ _).alloc hbase _).drew hown2.drew ap.grown (Nat.le_refl _) hs2)
  rw [EC_append]
  exact ap.own

set_option maxHeartbeats 8000000 in
set_option maxRecDepth 100000 in
theorem law_StateParts (v0 : Sv) (a1 : Int) (W : World) (t0 : SIn W v0) (t1 : (Lit.int .u8 a1).wf = true) :
    Calls Try.prog 7 #[sv v0, .int .u8 a1] W fun e w' => e = .returned (.bool true) ∧ Below W.heap.size W w' := by
  have hk0 : 0 ≤ a1 ∧ a1 ≤ 255 := by
    have e1 : IntKind.u8.min = 0 := by decide
    have e2 : IntKind.u8.max = 255 := by decide
    simp [Lit.wf, e1, e2] at t1
    omega
  obtain ⟨hk0, hk1⟩ := hk0
  clear t1
  have hT0 := t0.1
  have HT0 := Lib.hid hT0
  clear hT0
  obtain ⟨⟨g0, e0, l0⟩, A0, n0, c0⟩ := v0
  obtain ⟨R0, hn0, hv0, _, _⟩ := t0
  simp only at hn0 hv0
  have HL0 := Lib.hid R0.len
  have HV0 := Lib.hid hv0
  clear hv0
  simp only [sv]
  have b := Below.refl W.heap.size W
  replace R0 := R0.allocH (.cells #[.int .i64 g0, .int .i64 e0, .slice A0 n0 c0] 24)
  have X := Box.new (W) #[.int .i64 g0, .int .i64 e0, .slice A0 n0 c0] 24
  replace b := b.alloc b.size (.cells #[.int .i64 g0, .int .i64 e0, .slice A0 n0 c0] 24)
  go_enter Try.func7, Try.ntmps7
  go_wp2_with fail
  refine (alive_any _).mono ?_
  rintro e w2 ⟨rfl, hb⟩
  replace R0 := R0.belowH hb
  replace X := X.belowH hb
  replace b := b.trans (hb.mono b.size)
  clear hb
  have x0 := X.at 0 rfl
  have x1 := X.at 1 rfl
  have x2 := X.at 2 rfl
  have LR := Rd.lit w2 #[.int .i64 g0, .int .i64 e0, .slice A0 n0 c0] 24 3 1 rfl
  replace R0 := R0.allocH (.cells #[.int .i64 g0, .int .i64 e0, .slice A0 n0 c0] 24)
  replace X := X.alloc (.cells #[.int .i64 g0, .int .i64 e0, .slice A0 n0 c0] 24)
  have LB := Box.new w2 #[.int .i64 g0, .int .i64 e0, .slice A0 n0 c0] 24
  replace b := b.alloc b.size (.cells #[.int .i64 g0, .int .i64 e0, .slice A0 n0 c0] 24)
  clear LB
  go_wp2_with fail
  refine (greats_any [⟨⟨g0, e0, l0⟩, A0, n0, c0⟩] _ 1 1 _ _ LR (by simp) (by omega) (fun v hv => by simp at hv; rcases hv with rfl <;> first | exact ⟨R0, hn0, HV0.out⟩)).mono ?_
  rintro e w3 ⟨rfl, hb⟩
  replace R0 := R0.belowH hb
  replace X := X.belowH hb
  replace b := b.trans (hb.mono b.size)
  clear hb
  clear LR
  clear x0 x1 x2
  rcases hgr : greats [⟨⟨g0, e0, l0⟩, A0, n0, c0⟩]
  · skip
    simp only [greats, List.any_cons, List.any_nil, Bool.or_false, Bool.or_eq_false_iff] at hgr
    have hs0 := great_small hgr HL0.out
    clear hgr
    have x0 := X.at 0 rfl
    have x1 := X.at 1 rfl
    have x2 := X.at 2 rfl
    go_wp2_with fail
    refine (rsright_any ⟨⟨g0, e0, l0⟩, A0, n0, c0⟩  _ R0 (by show n0 * 32 ≤ _; omega)).mono ?_
    rintro e w4 ⟨rfl, hb⟩
    replace R0 := R0.belowH hb
    replace X := X.belowH hb
    replace b := b.trans (hb.mono b.size)
    clear hb
    clear x0 x1 x2
    rcases hr0 : srightB ⟨g0, e0, l0⟩
    · go_wp2
      go_ret
      exact ⟨rfl, b⟩
    · skip
      have HR0 := Lib.hid (srightB_out hr0)
      clear hr0
      have x0 := X.at 0 rfl
      have x1 := X.at 1 rfl
      have x2 := X.at 2 rfl
      have hWL := X.lt
      replace R0 := R0.allocH (.cells #[.int .i64 g0, .int .i64 0, .slice none 0 0] 24)
      replace X := X.alloc (.cells #[.int .i64 g0, .int .i64 0, .slice none 0 0] 24)
      have L := Box.new w4 #[.int .i64 g0, .int .i64 0, .slice none 0 0] 24
      replace b := b.alloc b.size (.cells #[.int .i64 g0, .int .i64 0, .slice none 0 0] 24)
      have hLl := L.lt
      go_wp2
      clear x0 x1 x2
      generalize (w4.alloc (.cells #[.int .i64 g0, .int .i64 0, .slice none 0 0] 24)) = w5 at *
      clear R0
      go_loopw [6] (fun i wr => ∃ (k m : Nat) (A1 : Option Addr) (c1 : Nat), k ≤ n0 ∧ i = .int .i64 k ∧ m = (S.lows (l0.take k) a1).length ∧ m ≤ k ∧ Box wr W.heap.size 24 #[.int .i64 g0, .int .i64 e0, .slice A0 n0 c0] ∧ Box wr w4.heap.size 24 #[.int .i64 g0, .int .i64 0, .slice A1 m c1] ∧
          wr.ownsRow w5.heap.size 42 3 (.slice A1 m c1) m (EC (S.lows (l0.take k) a1)) ∧ w5.heap.size ≤ wr.heap.size ∧ Below W.heap.size W wr) (fun i _ => n0 - (intOf i).toNat)
      case atStart => exact ⟨0, 0, none, 0, by omega, rfl, rfl, by omega, X, L, World.ownsRow_nil _ _ _ _, Nat.le_refl _, b⟩
      case round =>
        obtain ⟨k, m, A1, c1, hk, rfl, hm, hmk, Xr, Lr, hown, hbs, br⟩ := hrel
        have HM := Lib.hid hm
        clear hm
        have x0 := Xr.at 0 rfl
        have x1 := Xr.at 1 rfl
        have x2 := Xr.at 2 rfl
        have lc0 := Lr.at 0 rfl
        have lc1 := Lr.at 1 rfl
        have lc2 := Lr.at 2 rfl
        have lf := Lr.cold
        have ll := Lr.lt
        have xl := Xr.lt
        have R0 := HT0.out.belowH br
        by_cases hlt : k < n0
        · obtain ⟨bb, o, y, e, hb0, hy, d0, d1, d2⟩ := Rd.atE R0 hlt
          simp only at e hy
          subst e
          have hk0' : (0 : Int) ≤ (k : Int) := by omega
          have hmore := take_more hy
          have HMORE := Lib.hid hmore
          clear hy hmore R0
          by_cases hv : y.ver ≤ a1
          · have HV := Lib.hid hv
            have n0' := World.new_ne wr _ d0
            have hno : wr.heap.size ≠ w4.heap.size := by omega
            have hnx : wr.heap.size ≠ W.heap.size := by omega
            go_wp2
            go_region_law ((refine push_step rfl (.tmp 38) (.tmp 44) (by rfl) w5.heap.size (by rfl) (by rfl) (show World.ownsRow _ _ _ _ _ _ _ from hown) (by omega) (by show w5.heap.size ≤ wr.heap.size; omega) ?_; rintro A2 c2 w7 hown7 hb7; have L7 := Lr.below hb7 (by omega); have c7 := L7.at 2 rfl; have f7 := L7.cold; have X7 := Xr.below hb7 (by omega)))
            all_goals
              go_wp2
              go_roundw
              case rel =>
                refine ⟨k + 1, m + 1, A2, c2, by omega, by go_num, ?_, by omega, X7.other (by omega) _, L7.set 2 _, own_set ?_ (by omega) _, ?_, below_set (br.trans (hb7.mono (by omega))) (by omega) _⟩
                · rw [HMORE.out, S.lows_snoc, if_pos HV.out, List.length_append, HM.out]; rfl
                · rw [HMORE.out, S.lows_snoc, if_pos HV.out]; exact hown7
                · have := hb7.size; simp; omega
              case measure => simp [intOf]; omega
          · have HV := Lib.hid hv
            go_wp2
            go_roundw
            case rel => exact ⟨k + 1, m, A1, c1, by omega, by go_num, by rw [HMORE.out, S.lows_snoc, if_neg (by have := HV.out; omega)]; exact HM.out, by omega, Xr, Lr, by rw [HMORE.out, S.lows_snoc, if_neg (by have := HV.out; omega)]; exact hown, hbs, br⟩
            case measure => simp [intOf]; omega
        · have he : l0.take k = l0 := List.take_of_length_le (by have := HL0.out; omega)
          have hm := HM.out
          rw [he] at hm hown
          have hlw : S.lows l0 a1 = S.lows l0 a1 := rfl
          have R1 : SRd wr ⟨⟨g0, 0, S.lows l0 a1⟩, A1, m, c1⟩ := Rd.of_own hown
          have HM2 := Lib.hid hm
          clear hm hown he hlw lc0 lc1 lc2 lf ll xl x0 x1 x2 HM
          clear b X L
          have b := br
          have X := Xr
          have L := Lr
          clear br Xr Lr
          have Rw := R1
          clear R1
          have x0 := X.at 0 rfl
          have x1 := X.at 1 rfl
          have x2 := X.at 2 rfl
          go_wp2_with fail
          refine (sabove_any ⟨⟨g0, e0, l0⟩, A0, n0, c0⟩ a1 _ R0 (by show n0 ≤ _; omega)).mono ?_
          rintro e w5 ⟨⟨sh, Ah, nh, ch⟩, rfl, hs, hown, hb⟩
          simp only at hs
          have Hh : Hid (sh = S.above ⟨g0, e0, l0⟩ a1) := Lib.hid hs
          have Rh := hown.srd
          have bdh : nh ≤ n0 := by have hq := Rh.len; have := HL0.out; have := E.aboves_length l0 a1; rw [Hh.out] at hq; simp only [S.above] at hq; (try simp only at *); omega
          clear hs hown
          replace R0 := R0.belowH hb
          replace Rw := Rw.belowH hb
          replace X := X.belowH hb
          replace L := L.belowH hb
          replace b := b.trans (hb.mono b.size)
          clear hb
          simp only [sv]
          clear x0 x1 x2
          have hnh : m + nh = n0 := by have hq := Rh.len; have := HL0.out; have := HM2.out; have := S.parts_length l0 a1; rw [Hh.out] at hq; simp only [S.above] at hq; omega
          have HNH := Lib.hid hnh
          clear hnh
          replace R0 := R0.allocH (.cells #[.int .i64 sh.gen, .int .i64 sh.beat, .slice Ah nh ch] 24)
          replace Rw := Rw.allocH (.cells #[.int .i64 sh.gen, .int .i64 sh.beat, .slice Ah nh ch] 24)
          replace Rh := Rh.allocH (.cells #[.int .i64 sh.gen, .int .i64 sh.beat, .slice Ah nh ch] 24)
          replace X := X.alloc (.cells #[.int .i64 sh.gen, .int .i64 sh.beat, .slice Ah nh ch] 24)
          replace L := L.alloc (.cells #[.int .i64 sh.gen, .int .i64 sh.beat, .slice Ah nh ch] 24)
          have H := Box.new w5 #[.int .i64 sh.gen, .int .i64 sh.beat, .slice Ah nh ch] 24
          replace b := b.alloc b.size (.cells #[.int .i64 sh.gen, .int .i64 sh.beat, .slice Ah nh ch] 24)
          have HE0 := Lib.hid HR0.out.2.2.1
          go_wp2
          have hsum : IntKind.i64.wrap ((m : Int) + (nh : Int)) = (n0 : Int) := by rw [show (m : Int) + (nh : Int) = (n0 : Int) by have := HNH.out; omega]; exact IntWalk.i64_in _ (by omega)
          replace R0 := R0.drewH
          replace Rw := Rw.drewH
          replace Rh := Rh.drewH
          replace X := X.drew
          replace L := L.drew
          replace H := H.drew
          replace b := b.drew
          refine wp_region_held_drew (S := (fun w' => (w'.cell? ⟨W.heap.size, 0, none⟩ = some (.int .i64 g0) ∧ w'.cell? ⟨W.heap.size, 1, none⟩ = some (.int .i64 e0) ∧ w'.cell? ⟨W.heap.size, 2, none⟩ = some (.slice A0 n0 c0)) ∧ (w'.cell? ⟨w4.heap.size, 0, none⟩ = some (.int .i64 g0) ∧ w'.cell? ⟨w4.heap.size, 1, none⟩ = some (.int .i64 0) ∧ w'.cell? ⟨w4.heap.size, 2, none⟩ = some (.slice A1 m c1)) ∧ (w'.cell? ⟨w5.heap.size, 0, none⟩ = some (.int .i64 sh.gen) ∧ w'.cell? ⟨w5.heap.size, 1, none⟩ = some (.int .i64 sh.beat) ∧ w'.cell? ⟨w5.heap.size, 2, none⟩ = some (.slice Ah nh ch)))) (by kernel_rfl) (by exact ⟨⟨X.at 0 rfl, X.at 1 rfl, X.at 2 rfl⟩, ⟨L.at 0 rfl, L.at 1 rfl, L.at 2 rfl⟩, ⟨H.at 0 rfl, H.at 1 rfl, H.at 2 rfl⟩⟩) (fun hHeld0 => ?_)
          refine wpAnyH_take (i := 0) (oi := ⟨some 51, _, _, _, _, _⟩) (v := ?_) rfl (by kernel_rfl) (by kernel_rfl) (by kernel_rfl) (fun _ _ _ h => h) (Or.inl ⟨by rfl, ?_⟩) hHeld0 ?_
          rotate_left
          · (intro w' hSw; (try dsimp only at hSw); go_simp; all_goals (with_reducible rfl))
          try simp only [Act.put, List.setIfInBounds_toArray, List.set_cons_zero, List.set_cons_succ]
          refine wpAnyH_take (i := 1) (oi := ⟨some 52, _, _, _, _, _⟩) (v := ?_) rfl (by kernel_rfl) (by kernel_rfl) (by kernel_rfl) (fun _ _ _ h => h) (Or.inl ⟨by rfl, ?_⟩) hHeld0 ?_
          rotate_left
          · (intro w' hSw; (try dsimp only at hSw); go_simp; all_goals (with_reducible rfl))
          try simp only [Act.put, List.setIfInBounds_toArray, List.set_cons_zero, List.set_cons_succ]
          refine wpAnyH_take (i := 3) (oi := ⟨some 54, _, _, _, _, _⟩) (v := ?_) rfl (by kernel_rfl) (by kernel_rfl) (by kernel_rfl) (fun _ _ _ h => h) (Or.inl ⟨by rfl, ?_⟩) hHeld0 ?_
          rotate_left
          · (intro w' hSw; (try dsimp only at hSw); go_simp; all_goals (with_reducible rfl))
          try simp only [Act.put, List.setIfInBounds_toArray, List.set_cons_zero, List.set_cons_succ]
          refine wpAnyH_ready (rs := [2]) (by kernel_rfl) (by simp) (AllReadyH.cons (o := ⟨some 53, _, _, _, _, _⟩) rfl (fun K hK => ?_) AllReadyH.nil)
          go_simp
          refine (sjoin_any ⟨⟨g0, 0, S.lows l0 a1⟩, A1, m, c1⟩ ⟨sh, Ah, nh, ch⟩ _ Rw Rh (by show m ≤ _; omega) (by show nh ≤ _; omega) (S.filter_rising (S.right_rise HR0.out) _) (show S.rise sh by rw [Hh.out]; exact S.filter_rising (S.right_rise HR0.out) _)).mono ?_
          rintro e w6 ⟨⟨sj, Aj, nj, cj⟩, rfl, hs, hown, hb⟩
          simp only at hs
          have Hj : Hid (sj = S.join ⟨g0, 0, S.lows l0 a1⟩ sh) := Lib.hid hs
          have Rj := hown.srd
          have bdj : nj ≤ m + nh := by have hq := Rj.len; have := join_apps_length ⟨g0, 0, S.lows l0 a1⟩ sh; have := Rw.len; have := Rh.len; rw [Hj.out] at hq; (try simp only at *); omega
          clear hs hown
          replace R0 := R0.belowH hb
          replace Rw := Rw.belowH hb
          replace Rh := Rh.belowH hb
          replace X := X.belowH hb
          replace L := L.belowH hb
          replace H := H.belowH hb
          replace b := b.trans (hb.mono b.size)
          clear hb
          simp only [sv]
          go_simp
          refine hK.out _ _ (by exact ⟨⟨X.at 0 rfl, X.at 1 rfl, X.at 2 rfl⟩, ⟨L.at 0 rfl, L.at 1 rfl, L.at 2 rfl⟩, ⟨H.at 0 rfl, H.at 1 rfl, H.at 2 rfl⟩⟩) (fun hHeld1 => ?_)
          clear hK hHeld0 K
          try simp only [Act.put, List.setIfInBounds_toArray, List.set_cons_zero, List.set_cons_succ]
          refine wpAnyH_ready (rs := [4]) (by kernel_rfl) (by simp) (AllReadyH.cons (o := ⟨some 55, _, _, _, _, _⟩) rfl (fun K hK => ?_) AllReadyH.nil)
          go_simp
          refine (rssame_any ⟨sj, Aj, nj, cj⟩ ⟨⟨g0, e0, l0⟩, A0, n0, c0⟩ _ Rj R0 (by show nj * 32 ≤ _; omega) (by show n0 * 32 ≤ _; omega)).mono ?_
          rw [show sameB sj ⟨g0, e0, l0⟩ = true from sameB_yes (Hj.out.trans (by rw [Hh.out]; exact parts_join (S.right_rise HR0.out) HE0.out))]
          rintro e w7 ⟨rfl, hb⟩
          replace R0 := R0.belowH hb
          replace Rw := Rw.belowH hb
          replace Rh := Rh.belowH hb
          replace Rj := Rj.belowH hb
          replace X := X.belowH hb
          replace L := L.belowH hb
          replace H := H.belowH hb
          replace b := b.trans (hb.mono b.size)
          clear hb
          go_simp
          refine hK.out _ _ (by exact ⟨⟨X.at 0 rfl, X.at 1 rfl, X.at 2 rfl⟩, ⟨L.at 0 rfl, L.at 1 rfl, L.at 2 rfl⟩, ⟨H.at 0 rfl, H.at 1 rfl, H.at 2 rfl⟩⟩) (fun hHeld2 => ?_)
          clear hK hHeld1 K
          try simp only [Act.put, List.setIfInBounds_toArray, List.set_cons_zero, List.set_cons_succ]
          refine wpAnyH_take (i := 5) (oi := ⟨some 56, _, _, _, _, _⟩) (v := ?_) rfl (by kernel_rfl) (by kernel_rfl) (by kernel_rfl) (fun _ _ _ h => h) (Or.inl ⟨by rfl, ?_⟩) hHeld2 ?_
          rotate_left
          · (intro w' hSw; (try dsimp only at hSw); go_simp; all_goals (with_reducible rfl))
          try simp only [Act.put, List.setIfInBounds_toArray, List.set_cons_zero, List.set_cons_succ]
          refine wpAnyH_take (i := 6) (oi := ⟨some 57, _, _, _, _, _⟩) (v := ?_) rfl (by kernel_rfl) (by kernel_rfl) (by kernel_rfl) (fun _ _ _ h => h) (Or.inl ⟨by rfl, ?_⟩) hHeld2 ?_
          rotate_left
          · (intro w' hSw; (try dsimp only at hSw); go_simp; all_goals (with_reducible rfl))
          try simp only [Act.put, List.setIfInBounds_toArray, List.set_cons_zero, List.set_cons_succ]
          refine wpAnyH_take (i := 7) (oi := ⟨some 58, _, _, _, _, _⟩) (v := ?_) rfl (by kernel_rfl) (by kernel_rfl) (by kernel_rfl) (fun _ _ _ h => h) (Or.inl ⟨by rfl, ?_⟩) hHeld2 ?_
          rotate_left
          · (intro w' hSw; (try dsimp only at hSw); go_simp; all_goals (with_reducible rfl))
          try simp only [Act.put, List.setIfInBounds_toArray, List.set_cons_zero, List.set_cons_succ]
          refine wpAnyH_take (i := 8) (oi := ⟨some 59, _, _, _, _, _⟩) (v := ?_) rfl (by kernel_rfl) (by kernel_rfl) (by kernel_rfl) (fun _ _ _ h => h) (Or.inl ⟨by rfl, ?_⟩) hHeld2 ?_
          rotate_left
          · (intro w' hSw; (try dsimp only at hSw); go_simp; all_goals (with_reducible rfl))
          try simp only [Act.put, List.setIfInBounds_toArray, List.set_cons_zero, List.set_cons_succ]
          refine wpAnyH_take (i := 9) (oi := ⟨some 60, _, _, _, _, _⟩) (v := ?_) rfl (by kernel_rfl) (by kernel_rfl) (by kernel_rfl) (fun _ _ _ h => h) (Or.inl ⟨by rfl, ?_⟩) hHeld2 ?_
          rotate_left
          · (intro w' hSw; (try dsimp only at hSw); go_simp; all_goals (with_reducible rfl))
          try simp only [Act.put, List.setIfInBounds_toArray, List.set_cons_zero, List.set_cons_succ]
          refine wpAnyH_take (i := 10) (oi := ⟨some 61, _, _, _, _, _⟩) (v := ?_) rfl (by kernel_rfl) (by kernel_rfl) (by kernel_rfl) (fun _ _ _ h => h) (Or.inl ⟨by rfl, ?_⟩) hHeld2 ?_
          rotate_left
          · (intro w' hSw; (try dsimp only at hSw); go_simp; all_goals (with_reducible rfl))
          try simp only [Act.put, List.setIfInBounds_toArray, List.set_cons_zero, List.set_cons_succ]
          refine wpAnyH_take (i := 11) (oi := ⟨some 62, _, _, _, _, _⟩) (v := ?_) rfl (by kernel_rfl) (by kernel_rfl) (by kernel_rfl) (fun _ _ _ h => h) (Or.inl ⟨by rfl, ?_⟩) hHeld2 ?_
          rotate_left
          · (intro w' hSw; (try dsimp only at hSw); go_simp; all_goals (with_reducible rfl))
          try simp only [Act.put, List.setIfInBounds_toArray, List.set_cons_zero, List.set_cons_succ]
          refine wpAnyH_take (i := 12) (oi := ⟨some 63, _, _, _, _, _⟩) (v := ?_) rfl (by kernel_rfl) (by kernel_rfl) (by kernel_rfl) (fun _ _ _ h => h) (Or.inl ⟨by rfl, ?_⟩) hHeld2 ?_
          rotate_left
          · (intro w' hSw; (try dsimp only at hSw); go_simp; all_goals (with_reducible rfl))
          try simp only [Act.put, List.setIfInBounds_toArray, List.set_cons_zero, List.set_cons_succ]
          refine wpAnyH_take (i := 13) (oi := ⟨some 64, _, _, _, _, _⟩) (v := ?_) rfl (by kernel_rfl) (by kernel_rfl) (by kernel_rfl) (fun _ _ _ h => h) (Or.inl ⟨by rfl, ?_⟩) hHeld2 ?_
          rotate_left
          · (intro w' hSw; (try dsimp only at hSw); go_simp; all_goals (with_reducible rfl))
          try simp only [Act.put, List.setIfInBounds_toArray, List.set_cons_zero, List.set_cons_succ]
          refine wpAnyH_take (i := 14) (oi := ⟨some 65, _, _, _, _, _⟩) (v := ?_) rfl (by kernel_rfl) (by kernel_rfl) (by kernel_rfl) (fun _ _ _ h => h) (Or.inl ⟨by rfl, ?_⟩) hHeld2 ?_
          rotate_left
          · (intro w' hSw; (try dsimp only at hSw); go_simp; all_goals (with_reducible rfl))
          try simp only [Act.put, List.setIfInBounds_toArray, List.set_cons_zero, List.set_cons_succ]
          refine wpAnyH_take (i := 15) (oi := ⟨some 66, _, _, _, _, _⟩) (v := ?_) rfl (by kernel_rfl) (by kernel_rfl) (by kernel_rfl) (fun _ _ _ h => h) (Or.inl ⟨by rfl, ?_⟩) hHeld2 ?_
          rotate_left
          · (intro w' hSw; (try dsimp only at hSw); go_simp; all_goals (with_reducible rfl))
          try simp only [Act.put, List.setIfInBounds_toArray, List.set_cons_zero, List.set_cons_succ]
          refine wpAnyH_take (i := 16) (oi := ⟨some 67, _, _, _, _, _⟩) (v := ?_) rfl (by kernel_rfl) (by kernel_rfl) (by kernel_rfl) (fun _ _ _ h => h) (Or.inl ⟨by rfl, ?_⟩) hHeld2 ?_
          rotate_left
          · (intro w' hSw; (try dsimp only at hSw); go_simp; all_goals (with_reducible rfl))
          try simp only [Act.put, List.setIfInBounds_toArray, List.set_cons_zero, List.set_cons_succ]
          refine wpAnyH_take (i := 17) (oi := ⟨some 68, _, _, _, _, _⟩) (v := ?_) rfl (by kernel_rfl) (by kernel_rfl) (by kernel_rfl) (fun _ _ _ h => h) (Or.inl ⟨by rfl, ?_⟩) hHeld2 ?_
          rotate_left
          · (intro w' hSw; (try dsimp only at hSw); go_simp; all_goals (with_reducible rfl))
          try simp only [Act.put, List.setIfInBounds_toArray, List.set_cons_zero, List.set_cons_succ]
          refine wpAnyH_take (i := 18) (oi := ⟨some 69, _, _, _, _, _⟩) (v := ?_) rfl (by kernel_rfl) (by kernel_rfl) (by kernel_rfl) (fun _ _ _ h => h) (Or.inl ⟨by rfl, ?_⟩) hHeld2 ?_
          rotate_left
          · (intro w' hSw; (try dsimp only at hSw); go_simp; all_goals (with_reducible rfl))
          try simp only [Act.put, List.setIfInBounds_toArray, List.set_cons_zero, List.set_cons_succ]
          refine wpAnyH_take (i := 19) (oi := ⟨some 70, _, _, _, _, _⟩) (v := ?_) rfl (by kernel_rfl) (by kernel_rfl) (by kernel_rfl) (fun _ _ _ h => h) (Or.inl ⟨by rfl, ?_⟩) hHeld2 ?_
          rotate_left
          · (intro w' hSw; (try dsimp only at hSw); go_simp; all_goals (with_reducible rfl))
          try simp only [Act.put, List.setIfInBounds_toArray, List.set_cons_zero, List.set_cons_succ]
          refine wpAnyH_take (i := 20) (oi := ⟨some 71, _, _, _, _, _⟩) (v := ?_) rfl (by kernel_rfl) (by kernel_rfl) (by kernel_rfl) (fun _ _ _ h => h) (Or.inl ⟨by rfl, ?_⟩) hHeld2 ?_
          rotate_left
          · (intro w' hSw; (try dsimp only at hSw); go_simp; all_goals (with_reducible rfl))
          try simp only [Act.put, List.setIfInBounds_toArray, List.set_cons_zero, List.set_cons_succ]
          refine wpAnyH_ready (rs := [21]) (by kernel_rfl) (by simp) (AllReadyH.cons (o := ⟨some 72, _, _, _, _, _⟩) rfl (fun K hK => ?_) AllReadyH.nil)
          go_simp
          refine (sover_any ⟨⟨g0, e0, l0⟩, A0, n0, c0⟩ ⟨⟨g0, 0, S.lows l0 a1⟩, A1, m, c1⟩ _ R0 Rw (by show n0 ≤ _; omega) (by show m ≤ _; omega) (S.right_rise HR0.out) (S.filter_rising (S.right_rise HR0.out) _)).mono ?_
          rw [soverB_iff.2 (parts_low (S.right_rise HR0.out) HE0.out)]
          rintro e w8 ⟨rfl, hb⟩
          replace R0 := R0.belowH hb
          replace Rw := Rw.belowH hb
          replace Rh := Rh.belowH hb
          replace Rj := Rj.belowH hb
          replace X := X.belowH hb
          replace L := L.belowH hb
          replace H := H.belowH hb
          replace b := b.trans (hb.mono b.size)
          clear hb
          go_simp
          refine hK.out _ _ (by exact ⟨⟨X.at 0 rfl, X.at 1 rfl, X.at 2 rfl⟩, ⟨L.at 0 rfl, L.at 1 rfl, L.at 2 rfl⟩, ⟨H.at 0 rfl, H.at 1 rfl, H.at 2 rfl⟩⟩) (fun hHeld3 => ?_)
          clear hK hHeld2 K
          try simp only [Act.put, List.setIfInBounds_toArray, List.set_cons_zero, List.set_cons_succ]
          refine wpAnyH_take (i := 22) (oi := ⟨some 73, _, _, _, _, _⟩) (v := ?_) rfl (by kernel_rfl) (by kernel_rfl) (by kernel_rfl) (fun _ _ _ h => h) (Or.inl ⟨by rfl, ?_⟩) hHeld3 ?_
          rotate_left
          · (intro w' hSw; (try dsimp only at hSw); go_simp; all_goals (with_reducible rfl))
          try simp only [Act.put, List.setIfInBounds_toArray, List.set_cons_zero, List.set_cons_succ]
          refine wpAnyH_take (i := 23) (oi := ⟨some 74, _, _, _, _, _⟩) (v := ?_) rfl (by kernel_rfl) (by kernel_rfl) (by kernel_rfl) (fun _ _ _ h => h) (Or.inl ⟨by rfl, ?_⟩) hHeld3 ?_
          rotate_left
          · (intro w' hSw; (try dsimp only at hSw); go_simp; all_goals (with_reducible rfl))
          try simp only [Act.put, List.setIfInBounds_toArray, List.set_cons_zero, List.set_cons_succ]
          refine wpAnyH_take (i := 24) (oi := ⟨some 75, _, _, _, _, _⟩) (v := ?_) rfl (by kernel_rfl) (by kernel_rfl) (by kernel_rfl) (fun _ _ _ h => h) (Or.inl ⟨by rfl, ?_⟩) hHeld3 ?_
          rotate_left
          · (intro w' hSw; (try dsimp only at hSw); go_simp; all_goals (with_reducible rfl))
          try simp only [Act.put, List.setIfInBounds_toArray, List.set_cons_zero, List.set_cons_succ]
          refine wpAnyH_take (i := 25) (oi := ⟨some 76, _, _, _, _, _⟩) (v := ?_) rfl (by kernel_rfl) (by kernel_rfl) (by kernel_rfl) (fun _ _ _ h => h) (Or.inl ⟨by rfl, ?_⟩) hHeld3 ?_
          rotate_left
          · (intro w' hSw; (try dsimp only at hSw); go_simp; all_goals (with_reducible rfl))
          try simp only [Act.put, List.setIfInBounds_toArray, List.set_cons_zero, List.set_cons_succ]
          refine wpAnyH_ready (rs := [26]) (by kernel_rfl) (by simp) (AllReadyH.cons (o := ⟨some 77, _, _, _, _, _⟩) rfl (fun K hK => ?_) AllReadyH.nil)
          go_simp
          refine (sover_any ⟨⟨g0, e0, l0⟩, A0, n0, c0⟩ ⟨sh, Ah, nh, ch⟩ _ R0 Rh (by show n0 ≤ _; omega) (by show nh ≤ _; omega) (S.right_rise HR0.out) (show S.rise sh by rw [Hh.out]; exact S.filter_rising (S.right_rise HR0.out) _)).mono ?_
          rw [soverB_iff.2 (show S.over ⟨g0, e0, l0⟩ sh by rw [Hh.out]; exact parts_high (S.right_rise HR0.out))]
          rintro e w9 ⟨rfl, hb⟩
          replace R0 := R0.belowH hb
          replace Rw := Rw.belowH hb
          replace Rh := Rh.belowH hb
          replace Rj := Rj.belowH hb
          replace X := X.belowH hb
          replace L := L.belowH hb
          replace H := H.belowH hb
          replace b := b.trans (hb.mono b.size)
          clear hb
          go_simp
          refine hK.out _ _ (by exact ⟨⟨X.at 0 rfl, X.at 1 rfl, X.at 2 rfl⟩, ⟨L.at 0 rfl, L.at 1 rfl, L.at 2 rfl⟩, ⟨H.at 0 rfl, H.at 1 rfl, H.at 2 rfl⟩⟩) (fun hHeld4 => ?_)
          clear hK hHeld3 K
          try simp only [Act.put, List.setIfInBounds_toArray, List.set_cons_zero, List.set_cons_succ]
          refine wpAnyH_take (i := 27) (oi := ⟨some 78, _, _, _, _, _⟩) (v := ?_) rfl (by kernel_rfl) (by kernel_rfl) (by kernel_rfl) (fun _ _ _ h => h) (Or.inl ⟨by rfl, ?_⟩) hHeld4 ?_
          rotate_left
          · (intro w' hSw; (try dsimp only at hSw); go_simp; all_goals (with_reducible rfl))
          try simp only [Act.put, List.setIfInBounds_toArray, List.set_cons_zero, List.set_cons_succ]
          refine wpAnyH_take (i := 28) (oi := ⟨some 4, _, _, _, _, _⟩) (v := ?_) rfl (by kernel_rfl) (by kernel_rfl) (by kernel_rfl) (fun _ _ _ h => h) (Or.inl ⟨by rfl, ?_⟩) hHeld4 ?_
          rotate_left
          · (intro w' hSw; (try dsimp only at hSw); go_simp; all_goals (with_reducible rfl))
          try simp only [Act.put, List.setIfInBounds_toArray, List.set_cons_zero, List.set_cons_succ]
          refine wpAnyH_done (by kernel_rfl) ?_ _
          go_wp2
          go_ret
          exact ⟨rfl, b⟩
  · go_wp2
    go_ret
    exact ⟨rfl, b⟩
end Go.Proofs.Ytfpfpepejocjfaa
