/- The document's choices: a list made rising. -/
import Derived.Test.YtlafmonfhkgcfaaCRef
namespace Go.Proofs.Ytlafmonfhkgcfaa
set_option linter.unusedVariables false
set_option linter.unusedSimpArgs false
open Go.RowKit
theorem appC_keeps {w w' : World} {base e size n m : Nat} {v v' : Value} {xs news : List Value} (ap : Appd w w' base e size v v' n m xs news) (hown : w.ownsRow base e size v n xs) (hb : base ≤ w.heap.size) : Below base w w' ∧ Keeps w w' v v' :=
  ⟨below_app (Below.refl _ _) hown ap.grown (Nat.le_refl _) hb, fun hr ho => ⟨hr.grownX ap.grown ho, ho.app hr ap.loc⟩⟩
theorem off_lit {w : World} {base e n g : Nat} {v : Value} {xs : List Value} (h : w.ownsRow base e 1 v n xs) (hg : w.heap.size ≤ g) : Off v (some ⟨g, 0, none⟩) 1 := fun _ b o e1 hb => by
  have h1 := (h.lt b hb).2
  cases e1
  omega
theorem off_new {w : World} {g s n c : Nat} {x : List Value} (h : Rd w w.heap.size 1 (some ⟨g, 0, none⟩) 1 x) (hg : w.heap.size ≤ s) : Off (.slice (some ⟨s, 0, none⟩) n c) (some ⟨g, 0, none⟩) 1 := fun _ b o e1 hb => by
  obtain ⟨b', o', e2, hlt, _⟩ := h.2 (by omega)
  obtain ⟨rfl, rfl⟩ : g = b ∧ 0 = o := by simpa using e1
  obtain ⟨rfl, rfl⟩ : g = b' ∧ 0 = o' := by simpa using e2
  simp [Value.ownBlock] at hb
  omega
theorem I_take' (l : List Int) (k : Nat) : (I l).take k = I (l.take k) := by simp [I]
theorem I_drop' (l : List Int) (k : Nat) : (I l).drop k = I (l.drop k) := by simp [I]
theorem cell_belowC {B : Nat} {W w : World} {q : Addr} {v : Value} (h : W.cell? q = some v) (b : Below B W w) (hlt : q.block < B) : w.cell? q = some v := (b.cell (p := q) hlt).trans h
theorem step_app0 {P : Program} {t e : TypeId} {z : Value} {size bytes : Nat} {w : World} {ops : Array Oper} {o : Oper} {a : Act} {K : Act → World → Prop} {Q : Exit → Act → World → Prop} {E : Prop} (T : SlT P t e z size bytes) (hgd : o.guard = none) (s x : Operand)
    (ho : o.op = .call { callee := .builtin .append, args := #[s, x], argTypes := #[t, t] })
    (base : Nat) {v : Value} (hs : a.eval s = v) (hown : w.ownsRow base e size v 0 [])
    {B : Nat} {A : Option Addr} {m c : Nat} {news : List Value} (hx : a.eval x = .slice A m c) (hr : Rd w B size A m news) (h1 : ∀ u ∈ news, u.oneCell' = true)
    (hb : m * bytes ≤ 140737488355328) (hl : m ≤ 140737488355328) (hbase : base ≤ w.heap.size)
    (h : ∀ A' c' w', Appd w w' base e size v (.slice A' m c') 0 m [] news → K (a.put o.dst (.slice A' m c')) w') :
    if Region.wanted o (yielded ops a.tmps) = true then Oper.wp P o a w K Q else E :=
  step_app_law T hgd s x ho base hs hown hx hr h1 (by rw [Nat.zero_add]; exact hb) (by rw [Nat.zero_add]; exact hl) hbase (by rw [Nat.zero_add]; exact h)
theorem ins_in {out : List Int} {x : Int} {k : Nat} (hs : Ch.spot out x = k) (h : out[k]? = some x) : Ch.ins out x = out := by unfold Ch.ins; rw [hs, if_pos h]
theorem ins_new {out : List Int} {x : Int} {k : Nat} (hs : Ch.spot out x = k) (h : out[k]? ≠ some x) : Ch.ins out x = out.take k ++ [x] ++ out.drop k := by unfold Ch.ins; rw [hs, if_neg h]
set_option maxHeartbeats 4000000 in
set_option maxRecDepth 20000 in
theorem rcrising_any (l : List Int) (A : Option Addr) (n c : Nat) (w : World) (h : Rd w w.heap.size 1 A n (I l)) (hn : n ≤ 1000) :
    Calls Try.prog 19 #[.slice A n c] w (ReadI (Ch.rising l) w) := by
  have hl : l.length = n := by have := h.len1; rwa [I_length] at this
  have HL := Lib.hid hl
  clear hl
  go_enter Try.func19, Try.ntmps19
  go_wp2
  go_loopw [3, 4] (fun v i wr => ∃ (k m : Nat) (A1 : Option Addr) (c1 : Nat), k ≤ n ∧ v = .slice A1 m c1 ∧ i = .int .i64 (k : Int) ∧ m ≤ k ∧ (m ≤ c1 ∧ c1 ≤ 9223372036854775807) ∧ Rd wr wr.heap.size 1 A1 m (I (Ch.rising (l.take k))) ∧ Below w.heap.size w wr) (fun _ i _ => n - (intOf i).toNat)
  case atStart => exact ⟨0, 0, none, 0, by omega, rfl, rfl, by omega, by omega, Rd.zero _ _ _ _, Below.refl _ _⟩
  case round =>
    obtain ⟨k, m, A1, c1, hk, rfl, rfl, hm, ⟨hc1, hc2⟩, R, b⟩ := hrel
    have hlo : (Ch.rising (l.take k)).length = m := by have := R.len1; rwa [I_length] at this
    have HUP : Hid (Ch.Up (Ch.rising (l.take k))) := Lib.hid (Ch.rising_up _)
    by_cases hlt : k < n
    · obtain ⟨bx, ox, x, e1, hbx, hx, c0⟩ := (h.belowH b).atI hlt
      subst e1
      have HT := Lib.hid (Ch.rising_take hx)
      have hk0 : (0 : Int) ≤ (k : Int) := by omega
      have hkn : (k : Int) < (n : Int) := by omega
      generalize Ch.rising (l.take k) = out at *
      have HLO := Lib.hid hlo
      clear hx hlo
      go_wp2
      go_loopw [5] (fun v wq => ∃ (j q : Nat), j ≤ m ∧ v = .int .i64 (j : Int) ∧ (∀ y ∈ out.take j, y < x) ∧ wq = wr.drewN q) (fun v _ => m - (intOf v).toNat)
      case atStart => exact ⟨0, 0, by omega, rfl, by simp, rfl⟩
      case round =>
        obtain ⟨j, q, hj, rfl, hlow, rfl⟩ := hrel
        have HLOW := Lib.hid hlow
        clear hlow
        have hj0 : (0 : Int) ≤ (j : Int) := by omega
        by_cases hjm : j < m
        · obtain ⟨by_, oy, y, e2, hby, hy, d0⟩ := R.atI hjm
          subst e2
          have HY := Lib.hid hy
          clear hy
          have g1 : decide ((j : Int) < (m : Int)) = true := decide_eq_true (by omega)
          have hjm2 : (j : Int) < (m : Int) := by omega
          by_cases hyx : y < x
          · have g2 : decide (y < x) = true := decide_eq_true hyx
            go_wp2
            go_quiet (fail)
            go_wp2
            go_roundw
            case rel => exact ⟨j + 1, q + nq, by omega, by go_num, by rw [take_more HY.out]; intro z hz; rcases List.mem_append.1 hz with hz | hz; exact HLOW.out z hz; (obtain rfl : z = y := by simpa using hz); exact hyx, by simp⟩
            case measure => simp [intOf]; omega
          · have g2 : decide (y < x) = false := decide_eq_false hyx
            have HSP : Hid (Ch.spot out x = j) := Lib.hid (Ch.spot_is (by have := HLO.out; omega) HLOW.out (fun z hz => by rw [HY.out] at hz; (obtain rfl : y = z := by simpa using hz); exact hyx))
            have g3 : ((j : Int) == (m : Int)) = false := by simp; omega
            by_cases hyx2 : y = x
            · subst hyx2
              have HINS : Hid (Ch.ins out y = out) := Lib.hid (ins_in HSP.out HY.out)
              have g4 : (y != y) = false := by simp
              go_wp2
              go_quiet (fail)
              go_wp2
              go_quiet (fail)
              go_wp2
              go_roundw
              case rel => exact ⟨k + 1, m, _, c1, by omega, rfl, by go_num, by omega, ⟨hc1, hc2⟩, by rw [HT.out, HINS.out]; exact R.drewN _, kdrewC b _⟩
              case measure => simp [intOf]; omega
            · have HINS : Hid (Ch.ins out x = out.take j ++ [x] ++ out.drop j) := Lib.hid (ins_new HSP.out (by rw [HY.out]; simpa using hyx2))
              have g4 : (y != x) = true := bne_iff_ne.2 hyx2
              clear hyx2
              go_wp2
              go_quiet (fail)
              rw [show (wr.drewN q).drewN nq = wr.drewN (q + nq) by simp]
              generalize q + nq = q1
              go_wp2
              go_quiet (fail)
              rw [show (wr.drewN q1).drewN nq = wr.drewN (q1 + nq) by simp]
              generalize q1 + nq = q2
              go_wp2_with fail
              refine wp_region_held_drew (S := fun w' => w'.cell? ⟨bx, ox + k, none⟩ = some (.int .i64 x)) (by kernel_rfl) c0 (fun hHeld0 => ?_)
              have RD := (R.drewN q2).drew
              have BD := (kdrewC b q2).drew
              have C0 : (wr.drewN q2).drew.cell? ⟨bx, ox + k, none⟩ = some (.int .i64 x) := c0
              have HCP : Hid (m ≤ c1 ∧ c1 ≤ 9223372036854775807 ∧ n ≤ 1000) := Lib.hid ⟨hc1, hc2, hn⟩
              clear R b c0 h g1 g3
              try clear g2
              try clear g4
              have HBX : bx < (wr.drewN q2).drew.heap.size := hbx
              have RD' : Rd (wr.drewN q2).drew (wr.drewN q2).drew.heap.size 1 (some ⟨by_, oy, none⟩) m (I out) := RD
              have hbs := BD.size
              clear RD hbx
              generalize (wr.drewN q2).drew = wd at *
              obtain ⟨B0, hB0⟩ : ∃ B0, wd.heap.size = B0 := ⟨_, rfl⟩
              have hbd := Below.refl B0 wd
              rw [hB0] at RD' HBX hbs
              have hsz : B0 ≤ wd.heap.size := by omega
              clear hB0
              have SH := fun W => run_cut_h i64C W (some ⟨by_, oy, none⟩) m c1 j (j : Int) rfl (by have := HCP.out; omega)
              have SL := fun W => run_cut_l i64C W (some ⟨by_, oy, none⟩) m c1 j (j : Int) rfl (by omega)
              refine tk 1 45 rfl hHeld0 ?_
              refine tk 2 46 rfl hHeld0 ?_
              refine tk 3 47 rfl hHeld0 ?_
              refine tk 5 49 rfl hHeld0 ?_
              refine tk 6 50 rfl hHeld0 ?_
              refine tk 7 51 rfl hHeld0 ?_
              refine tk 8 52 rfl hHeld0 ?_
              refine tk 11 55 rfl hHeld0 ?_
              refine tk 12 56 rfl hHeld0 ?_
              refine tk 13 57 rfl hHeld0 ?_
              clear SH SL
              refine wpAnyH_ready (rs := [0, 9]) (by kernel_rfl) (by simp) (AllReadyH.cons (o := ⟨some 44, _, _, _, _, _⟩) rfl (fun K hK => ?_) (AllReadyH.cons (o := ⟨some 53, _, _, _, _, _⟩) rfl (fun K hK => ?_) AllReadyH.nil))
              · skip
                go_simp
                have O := own_mono (litC wd) hsz
                replace hbd := hbd.alloc hsz (.cells #[] 3)
                replace hsz : B0 ≤ (wd.alloc (.cells #[] 3)).heap.size := by simp; omega
                refine hK.out _ _ (cell_belowC C0 hbd HBX) (fun hHeld1 => ?_)
                clear hK hHeld0 K
                try simp only [Act.put, sA, sB, sC]
                generalize wd.alloc (.cells #[] 3) = w0_a0 at *
                generalize wd.heap.size = za at *
                refine wpAnyH_ready (rs := [4, 9]) (by kernel_rfl) (by simp) (AllReadyH.cons (o := ⟨some 48, _, _, _, _, _⟩) rfl (fun K hK => ?_) (AllReadyH.cons (o := ⟨some 53, _, _, _, _, _⟩) rfl (fun K hK => ?_) AllReadyH.nil))
                · skip
                  refine step_app0 i64C rfl (.tmp 44) (.tmp 47) rfl B0 rfl O rfl ((RD'.below hbd).take1 (k := j) (by omega)) (by rw [I_take']; exact I_oneC _) (by have := HCP.out; omega) (by have := HCP.out; omega) hsz ?_
                  rintro A14 c14 w1_a00 ap
                  obtain ⟨hb2, hkp⟩ := appC_keeps ap O hsz
                  have O2 := ap.own
                  clear ap O
                  rw [List.nil_append] at O2
                  have O := O2
                  replace hbd := hbd.trans hb2
                  have hsz := Nat.le_trans hsz hb2.size
                  clear O2 hkp hb2
                  refine hK.out _ _ (cell_belowC C0 hbd HBX) (fun hHeld2 => ?_)
                  clear hK hHeld1 K
                  try simp only [Act.put, sA, sB, sC]
                  refine wpAnyH_ready (rs := [9]) (by kernel_rfl) (by simp) (AllReadyH.cons (o := ⟨some 53, _, _, _, _, _⟩) rfl (fun K hK => ?_) AllReadyH.nil)
                  go_simp
                  have LT := (Rd.one w1_a00 (.int .i64 x) 3).more (show _ ≤ (w1_a00.alloc (.cells #[.int .i64 x] 3)).heap.size by simp)
                  replace hbd := hbd.alloc hsz (.cells #[.int .i64 x] 3)
                  replace hsz : B0 ≤ (w1_a00.alloc (.cells #[.int .i64 x] 3)).heap.size := by simp; omega
                  have OF := off_lit O (Nat.le_refl _)
                  replace O := O.alloc (.cells #[.int .i64 x] 3)
                  refine hK.out _ _ (cell_belowC C0 hbd HBX) (fun hHeld3 => ?_)
                  clear hK hHeld2 K
                  try simp only [Act.put, sA, sB, sC]
                  generalize w1_a00.alloc (.cells #[.int .i64 x] 3) = w2_a000 at *
                  generalize w1_a00.heap.size = zl at *
                  refine wpAnyH_ready (rs := [10]) (by kernel_rfl) (by simp) (AllReadyH.cons (o := ⟨some 54, _, _, _, _, _⟩) rfl (fun K hK => ?_) AllReadyH.nil)
                  refine step_app_law i64C rfl (.tmp 48) (.tmp 53) rfl B0 rfl O rfl LT (one_int _ _) (by have := HCP.out; omega) (by have := HCP.out; omega) hsz ?_
                  rintro A20 c20 w3_a0000 ap
                  obtain ⟨hb2, hkp⟩ := appC_keeps ap O hsz
                  have O2 := ap.own
                  clear ap O
                  have O := O2
                  replace hbd := hbd.trans hb2
                  have hsz := Nat.le_trans hsz hb2.size
                  clear O2 hkp hb2
                  clear LT OF
                  refine hK.out _ _ (cell_belowC C0 hbd HBX) (fun hHeld4 => ?_)
                  clear hK hHeld3 K
                  try simp only [Act.put, sA, sB, sC]
                  refine wpAnyH_ready (rs := [14]) (by kernel_rfl) (by simp) (AllReadyH.cons (o := ⟨some 58, _, _, _, _, _⟩) rfl (fun K hK => ?_) AllReadyH.nil)
                  refine step_app_law i64C rfl (.tmp 54) (.tmp 57) rfl B0 rfl O rfl ((RD'.below hbd).cut1 (k := j) (by omega) (by have := HCP.out; omega)) (by rw [I_drop']; exact I_oneC _) (by have := HCP.out; omega) (by have := HCP.out; omega) hsz ?_
                  rintro A24 c24 w4_a00000 ap
                  obtain ⟨hb2, hkp⟩ := appC_keeps ap O hsz
                  have O2 := ap.own
                  clear ap O
                  have O := O2
                  replace hbd := hbd.trans hb2
                  have hsz := Nat.le_trans hsz hb2.size
                  clear O2 hkp hb2
                  refine hK.out _ _ (cell_belowC C0 hbd HBX) (fun hHeld5 => ?_)
                  clear hK hHeld4 K
                  try simp only [Act.put, sA, sB, sC]
                  refine tk 15 3 rfl hHeld5 ?_
                  refine wpAnyH_done (by kernel_rfl) ?_ _
                  clear hHeld5
                  have HO := Lib.hid O
                  clear O
                  go_wp2
                  go_roundw
                  case rel => exact ⟨k + 1, _, A24, c24, by omega, rfl, by go_num, by omega, own_cap HO.out, by rw [HT.out, HINS.out]; exact Rd.of_own (by have h1 := HO.out; rw [I_take', I_drop', show [Value.int .i64 x] = I [x] from rfl, ← I_appC, ← I_appC] at h1; exact h1), BD.trans (hbd.mono hbs)⟩
                  case measure => simp [intOf]; omega
                · skip
                  go_simp
                  have LT := (Rd.one w0_a0 (.int .i64 x) 3).more (show _ ≤ (w0_a0.alloc (.cells #[.int .i64 x] 3)).heap.size by simp)
                  replace hbd := hbd.alloc hsz (.cells #[.int .i64 x] 3)
                  replace hsz : B0 ≤ (w0_a0.alloc (.cells #[.int .i64 x] 3)).heap.size := by simp; omega
                  have OF := off_lit O (Nat.le_refl _)
                  replace O := O.alloc (.cells #[.int .i64 x] 3)
                  refine hK.out _ _ (cell_belowC C0 hbd HBX) (fun hHeld2 => ?_)
                  clear hK hHeld1 K
                  try simp only [Act.put, sA, sB, sC]
                  generalize w0_a0.alloc (.cells #[.int .i64 x] 3) = w1_a01 at *
                  generalize w0_a0.heap.size = zl at *
                  refine wpAnyH_ready (rs := [4]) (by kernel_rfl) (by simp) (AllReadyH.cons (o := ⟨some 48, _, _, _, _, _⟩) rfl (fun K hK => ?_) AllReadyH.nil)
                  refine step_app0 i64C rfl (.tmp 44) (.tmp 47) rfl B0 rfl O rfl ((RD'.below hbd).take1 (k := j) (by omega)) (by rw [I_take']; exact I_oneC _) (by have := HCP.out; omega) (by have := HCP.out; omega) hsz ?_
                  rintro A14 c14 w2_a010 ap
                  obtain ⟨hb2, hkp⟩ := appC_keeps ap O hsz
                  have O2 := ap.own
                  clear ap O
                  rw [List.nil_append] at O2
                  obtain ⟨LT2, OF2⟩ := hkp LT OF
                  clear LT OF
                  have LT := LT2
                  have OF := OF2
                  clear LT2 OF2
                  have O := O2
                  replace hbd := hbd.trans hb2
                  have hsz := Nat.le_trans hsz hb2.size
                  clear O2 hkp hb2
                  refine hK.out _ _ (cell_belowC C0 hbd HBX) (fun hHeld3 => ?_)
                  clear hK hHeld2 K
                  try simp only [Act.put, sA, sB, sC]
                  refine wpAnyH_ready (rs := [10]) (by kernel_rfl) (by simp) (AllReadyH.cons (o := ⟨some 54, _, _, _, _, _⟩) rfl (fun K hK => ?_) AllReadyH.nil)
                  refine step_app_law i64C rfl (.tmp 48) (.tmp 53) rfl B0 rfl O rfl LT (one_int _ _) (by have := HCP.out; omega) (by have := HCP.out; omega) hsz ?_
                  rintro A20 c20 w3_a0100 ap
                  obtain ⟨hb2, hkp⟩ := appC_keeps ap O hsz
                  have O2 := ap.own
                  clear ap O
                  have O := O2
                  replace hbd := hbd.trans hb2
                  have hsz := Nat.le_trans hsz hb2.size
                  clear O2 hkp hb2
                  clear LT OF
                  refine hK.out _ _ (cell_belowC C0 hbd HBX) (fun hHeld4 => ?_)
                  clear hK hHeld3 K
                  try simp only [Act.put, sA, sB, sC]
                  refine wpAnyH_ready (rs := [14]) (by kernel_rfl) (by simp) (AllReadyH.cons (o := ⟨some 58, _, _, _, _, _⟩) rfl (fun K hK => ?_) AllReadyH.nil)
                  refine step_app_law i64C rfl (.tmp 54) (.tmp 57) rfl B0 rfl O rfl ((RD'.below hbd).cut1 (k := j) (by omega) (by have := HCP.out; omega)) (by rw [I_drop']; exact I_oneC _) (by have := HCP.out; omega) (by have := HCP.out; omega) hsz ?_
                  rintro A24 c24 w4_a01000 ap
                  obtain ⟨hb2, hkp⟩ := appC_keeps ap O hsz
                  have O2 := ap.own
                  clear ap O
                  have O := O2
                  replace hbd := hbd.trans hb2
                  have hsz := Nat.le_trans hsz hb2.size
                  clear O2 hkp hb2
                  refine hK.out _ _ (cell_belowC C0 hbd HBX) (fun hHeld5 => ?_)
                  clear hK hHeld4 K
                  try simp only [Act.put, sA, sB, sC]
                  refine tk 15 3 rfl hHeld5 ?_
                  refine wpAnyH_done (by kernel_rfl) ?_ _
                  clear hHeld5
                  have HO := Lib.hid O
                  clear O
                  go_wp2
                  go_roundw
                  case rel => exact ⟨k + 1, _, A24, c24, by omega, rfl, by go_num, by omega, own_cap HO.out, by rw [HT.out, HINS.out]; exact Rd.of_own (by have h1 := HO.out; rw [I_take', I_drop', show [Value.int .i64 x] = I [x] from rfl, ← I_appC, ← I_appC] at h1; exact h1), BD.trans (hbd.mono hbs)⟩
                  case measure => simp [intOf]; omega
              · skip
                go_simp
                have LT := (Rd.one wd (.int .i64 x) 3).more (show _ ≤ (wd.alloc (.cells #[.int .i64 x] 3)).heap.size by simp)
                replace hbd := hbd.alloc hsz (.cells #[.int .i64 x] 3)
                replace hsz : B0 ≤ (wd.alloc (.cells #[.int .i64 x] 3)).heap.size := by simp; omega
                refine hK.out _ _ (cell_belowC C0 hbd HBX) (fun hHeld1 => ?_)
                clear hK hHeld0 K
                try simp only [Act.put, sA, sB, sC]
                generalize wd.alloc (.cells #[.int .i64 x] 3) = w0_a1 at *
                generalize wd.heap.size = zl at *
                refine wpAnyH_ready (rs := [0]) (by kernel_rfl) (by simp) (AllReadyH.cons (o := ⟨some 44, _, _, _, _, _⟩) rfl (fun K hK => ?_) AllReadyH.nil)
                go_simp
                have O := own_mono (litC w0_a1) hsz
                replace hbd := hbd.alloc hsz (.cells #[] 3)
                replace hsz : B0 ≤ (w0_a1.alloc (.cells #[] 3)).heap.size := by simp; omega
                have OF := off_new (n := 0) (c := 0) LT (Nat.le_refl _)
                replace LT : Rd (w0_a1.alloc (.cells #[] 3)) (w0_a1.alloc (.cells #[] 3)).heap.size 1 (some ⟨zl, 0, none⟩) 1 [.int .i64 x] := (LT.alloc (Nat.le_refl _) (.cells #[] 3)).more (by simp)
                refine hK.out _ _ (cell_belowC C0 hbd HBX) (fun hHeld2 => ?_)
                clear hK hHeld1 K
                try simp only [Act.put, sA, sB, sC]
                generalize w0_a1.alloc (.cells #[] 3) = w1_a10 at *
                generalize w0_a1.heap.size = za at *
                refine wpAnyH_ready (rs := [4]) (by kernel_rfl) (by simp) (AllReadyH.cons (o := ⟨some 48, _, _, _, _, _⟩) rfl (fun K hK => ?_) AllReadyH.nil)
                refine step_app0 i64C rfl (.tmp 44) (.tmp 47) rfl B0 rfl O rfl ((RD'.below hbd).take1 (k := j) (by omega)) (by rw [I_take']; exact I_oneC _) (by have := HCP.out; omega) (by have := HCP.out; omega) hsz ?_
                rintro A14 c14 w2_a100 ap
                obtain ⟨hb2, hkp⟩ := appC_keeps ap O hsz
                have O2 := ap.own
                clear ap O
                rw [List.nil_append] at O2
                obtain ⟨LT2, OF2⟩ := hkp LT OF
                clear LT OF
                have LT := LT2
                have OF := OF2
                clear LT2 OF2
                have O := O2
                replace hbd := hbd.trans hb2
                have hsz := Nat.le_trans hsz hb2.size
                clear O2 hkp hb2
                refine hK.out _ _ (cell_belowC C0 hbd HBX) (fun hHeld3 => ?_)
                clear hK hHeld2 K
                try simp only [Act.put, sA, sB, sC]
                refine wpAnyH_ready (rs := [10]) (by kernel_rfl) (by simp) (AllReadyH.cons (o := ⟨some 54, _, _, _, _, _⟩) rfl (fun K hK => ?_) AllReadyH.nil)
                refine step_app_law i64C rfl (.tmp 48) (.tmp 53) rfl B0 rfl O rfl LT (one_int _ _) (by have := HCP.out; omega) (by have := HCP.out; omega) hsz ?_
                rintro A20 c20 w3_a1000 ap
                obtain ⟨hb2, hkp⟩ := appC_keeps ap O hsz
                have O2 := ap.own
                clear ap O
                have O := O2
                replace hbd := hbd.trans hb2
                have hsz := Nat.le_trans hsz hb2.size
                clear O2 hkp hb2
                clear LT OF
                refine hK.out _ _ (cell_belowC C0 hbd HBX) (fun hHeld4 => ?_)
                clear hK hHeld3 K
                try simp only [Act.put, sA, sB, sC]
                refine wpAnyH_ready (rs := [14]) (by kernel_rfl) (by simp) (AllReadyH.cons (o := ⟨some 58, _, _, _, _, _⟩) rfl (fun K hK => ?_) AllReadyH.nil)
                refine step_app_law i64C rfl (.tmp 54) (.tmp 57) rfl B0 rfl O rfl ((RD'.below hbd).cut1 (k := j) (by omega) (by have := HCP.out; omega)) (by rw [I_drop']; exact I_oneC _) (by have := HCP.out; omega) (by have := HCP.out; omega) hsz ?_
                rintro A24 c24 w4_a10000 ap
                obtain ⟨hb2, hkp⟩ := appC_keeps ap O hsz
                have O2 := ap.own
                clear ap O
                have O := O2
                replace hbd := hbd.trans hb2
                have hsz := Nat.le_trans hsz hb2.size
                clear O2 hkp hb2
                refine hK.out _ _ (cell_belowC C0 hbd HBX) (fun hHeld5 => ?_)
                clear hK hHeld4 K
                try simp only [Act.put, sA, sB, sC]
                refine tk 15 3 rfl hHeld5 ?_
                refine wpAnyH_done (by kernel_rfl) ?_ _
                clear hHeld5
                have HO := Lib.hid O
                clear O
                go_wp2
                go_roundw
                case rel => exact ⟨k + 1, _, A24, c24, by omega, rfl, by go_num, by omega, own_cap HO.out, by rw [HT.out, HINS.out]; exact Rd.of_own (by have h1 := HO.out; rw [I_take', I_drop', show [Value.int .i64 x] = I [x] from rfl, ← I_appC, ← I_appC] at h1; exact h1), BD.trans (hbd.mono hbs)⟩
                case measure => simp [intOf]; omega
        · obtain rfl : j = m := by omega
          have g1 : decide ((j : Int) < (j : Int)) = false := decide_eq_false (by omega)
          have HSP : Hid (Ch.spot out x = j) := Lib.hid (Ch.spot_is (by have := HLO.out; omega) HLOW.out (fun z hz => by have h1 := (List.getElem?_eq_some_iff.1 hz).1; have := HLO.out; omega))
          have HINS : Hid (Ch.ins out x = out.take j ++ [x] ++ []) := Lib.hid (by have e := ins_new HSP.out (fun hz => by have h1 := (List.getElem?_eq_some_iff.1 hz).1; have := HLO.out; omega); rwa [List.drop_eq_nil_of_le (by have := HLO.out; omega)] at e)
          have g3 : ((j : Int) == (j : Int)) = true := by simp
          go_wp2
          go_quiet (fail)
          rw [show (wr.drewN q).drewN nq = wr.drewN (q + nq) by simp]
          generalize q + nq = q1
          go_wp2
          go_quiet (fail)
          rw [show (wr.drewN q1).drewN nq = wr.drewN (q1 + nq) by simp]
          generalize q1 + nq = q2
          go_wp2_with fail
          refine wp_region_held_drew (S := fun w' => w'.cell? ⟨bx, ox + k, none⟩ = some (.int .i64 x)) (by kernel_rfl) c0 (fun hHeld0 => ?_)
          have RD := (R.drewN q2).drew
          have BD := (kdrewC b q2).drew
          have C0 : (wr.drewN q2).drew.cell? ⟨bx, ox + k, none⟩ = some (.int .i64 x) := c0
          have HCP : Hid (j ≤ c1 ∧ c1 ≤ 9223372036854775807 ∧ n ≤ 1000) := Lib.hid ⟨hc1, hc2, hn⟩
          clear R b c0 h g1 g3
          try clear g2
          try clear g4
          have HBX : bx < (wr.drewN q2).drew.heap.size := hbx
          have RD' : Rd (wr.drewN q2).drew (wr.drewN q2).drew.heap.size 1 A1 j (I out) := RD
          have hbs := BD.size
          clear RD hbx
          generalize (wr.drewN q2).drew = wd at *
          obtain ⟨B0, hB0⟩ : ∃ B0, wd.heap.size = B0 := ⟨_, rfl⟩
          have hbd := Below.refl B0 wd
          rw [hB0] at RD' HBX hbs
          have hsz : B0 ≤ wd.heap.size := by omega
          clear hB0
          have SH := fun W => run_cut_h i64C W A1 j c1 j (j : Int) rfl (by have := HCP.out; omega)
          have SL := fun W => run_cut_l i64C W A1 j c1 j (j : Int) rfl (by omega)
          refine tk 1 45 rfl hHeld0 ?_
          refine tk 2 46 rfl hHeld0 ?_
          refine tk 3 47 rfl hHeld0 ?_
          refine tk 5 49 rfl hHeld0 ?_
          refine tk 6 50 rfl hHeld0 ?_
          refine tk 7 51 rfl hHeld0 ?_
          refine tk 8 52 rfl hHeld0 ?_
          refine tk 11 55 rfl hHeld0 ?_
          refine tk 12 56 rfl hHeld0 ?_
          refine tk 13 57 rfl hHeld0 ?_
          clear SH SL
          refine wpAnyH_ready (rs := [0, 9]) (by kernel_rfl) (by simp) (AllReadyH.cons (o := ⟨some 44, _, _, _, _, _⟩) rfl (fun K hK => ?_) (AllReadyH.cons (o := ⟨some 53, _, _, _, _, _⟩) rfl (fun K hK => ?_) AllReadyH.nil))
          · skip
            go_simp
            have O := own_mono (litC wd) hsz
            replace hbd := hbd.alloc hsz (.cells #[] 3)
            replace hsz : B0 ≤ (wd.alloc (.cells #[] 3)).heap.size := by simp; omega
            refine hK.out _ _ (cell_belowC C0 hbd HBX) (fun hHeld1 => ?_)
            clear hK hHeld0 K
            try simp only [Act.put, sA, sB, sC]
            generalize wd.alloc (.cells #[] 3) = w0_a0 at *
            generalize wd.heap.size = za at *
            refine wpAnyH_ready (rs := [4, 9]) (by kernel_rfl) (by simp) (AllReadyH.cons (o := ⟨some 48, _, _, _, _, _⟩) rfl (fun K hK => ?_) (AllReadyH.cons (o := ⟨some 53, _, _, _, _, _⟩) rfl (fun K hK => ?_) AllReadyH.nil))
            · skip
              refine step_app0 i64C rfl (.tmp 44) (.tmp 47) rfl B0 rfl O rfl ((RD'.below hbd).take1 (k := j) (by omega)) (by rw [I_take']; exact I_oneC _) (by have := HCP.out; omega) (by have := HCP.out; omega) hsz ?_
              rintro A14 c14 w1_a00 ap
              obtain ⟨hb2, hkp⟩ := appC_keeps ap O hsz
              have O2 := ap.own
              clear ap O
              rw [List.nil_append] at O2
              have O := O2
              replace hbd := hbd.trans hb2
              have hsz := Nat.le_trans hsz hb2.size
              clear O2 hkp hb2
              refine hK.out _ _ (cell_belowC C0 hbd HBX) (fun hHeld2 => ?_)
              clear hK hHeld1 K
              try simp only [Act.put, sA, sB, sC]
              refine wpAnyH_ready (rs := [9]) (by kernel_rfl) (by simp) (AllReadyH.cons (o := ⟨some 53, _, _, _, _, _⟩) rfl (fun K hK => ?_) AllReadyH.nil)
              go_simp
              have LT := (Rd.one w1_a00 (.int .i64 x) 3).more (show _ ≤ (w1_a00.alloc (.cells #[.int .i64 x] 3)).heap.size by simp)
              replace hbd := hbd.alloc hsz (.cells #[.int .i64 x] 3)
              replace hsz : B0 ≤ (w1_a00.alloc (.cells #[.int .i64 x] 3)).heap.size := by simp; omega
              have OF := off_lit O (Nat.le_refl _)
              replace O := O.alloc (.cells #[.int .i64 x] 3)
              refine hK.out _ _ (cell_belowC C0 hbd HBX) (fun hHeld3 => ?_)
              clear hK hHeld2 K
              try simp only [Act.put, sA, sB, sC]
              generalize w1_a00.alloc (.cells #[.int .i64 x] 3) = w2_a000 at *
              generalize w1_a00.heap.size = zl at *
              refine wpAnyH_ready (rs := [10]) (by kernel_rfl) (by simp) (AllReadyH.cons (o := ⟨some 54, _, _, _, _, _⟩) rfl (fun K hK => ?_) AllReadyH.nil)
              refine step_app_law i64C rfl (.tmp 48) (.tmp 53) rfl B0 rfl O rfl LT (one_int _ _) (by have := HCP.out; omega) (by have := HCP.out; omega) hsz ?_
              rintro A20 c20 w3_a0000 ap
              obtain ⟨hb2, hkp⟩ := appC_keeps ap O hsz
              have O2 := ap.own
              clear ap O
              have O := O2
              replace hbd := hbd.trans hb2
              have hsz := Nat.le_trans hsz hb2.size
              clear O2 hkp hb2
              clear LT OF
              refine hK.out _ _ (cell_belowC C0 hbd HBX) (fun hHeld4 => ?_)
              clear hK hHeld3 K
              try simp only [Act.put, sA, sB, sC]
              refine wpAnyH_ready (rs := [14]) (by kernel_rfl) (by simp) (AllReadyH.cons (o := ⟨some 58, _, _, _, _, _⟩) rfl (fun K hK => ?_) AllReadyH.nil)
              refine step_app_law i64C rfl (.tmp 54) (.tmp 57) rfl B0 rfl O rfl (Rd.of_zero _ B0 1 (cutA A1 c1 j 1) rfl rfl) (by simp) (by have := HCP.out; omega) (by have := HCP.out; omega) hsz ?_
              rintro A24 c24 w4_a00000 ap
              obtain ⟨hb2, hkp⟩ := appC_keeps ap O hsz
              have O2 := ap.own
              clear ap O
              have O := O2
              replace hbd := hbd.trans hb2
              have hsz := Nat.le_trans hsz hb2.size
              clear O2 hkp hb2
              refine hK.out _ _ (cell_belowC C0 hbd HBX) (fun hHeld5 => ?_)
              clear hK hHeld4 K
              try simp only [Act.put, sA, sB, sC]
              refine tk 15 3 rfl hHeld5 ?_
              refine wpAnyH_done (by kernel_rfl) ?_ _
              clear hHeld5
              have HO := Lib.hid O
              clear O
              go_wp2
              go_roundw
              case rel => exact ⟨k + 1, _, A24, c24, by omega, rfl, by go_num, by omega, own_cap HO.out, by rw [HT.out, HINS.out]; exact Rd.of_own (by have h1 := HO.out; rw [I_take', show [Value.int .i64 x] = I [x] from rfl, show ([] : List Value) = I [] from rfl, ← I_appC, ← I_appC] at h1; exact h1), BD.trans (hbd.mono hbs)⟩
              case measure => simp [intOf]; omega
            · skip
              go_simp
              have LT := (Rd.one w0_a0 (.int .i64 x) 3).more (show _ ≤ (w0_a0.alloc (.cells #[.int .i64 x] 3)).heap.size by simp)
              replace hbd := hbd.alloc hsz (.cells #[.int .i64 x] 3)
              replace hsz : B0 ≤ (w0_a0.alloc (.cells #[.int .i64 x] 3)).heap.size := by simp; omega
              have OF := off_lit O (Nat.le_refl _)
              replace O := O.alloc (.cells #[.int .i64 x] 3)
              refine hK.out _ _ (cell_belowC C0 hbd HBX) (fun hHeld2 => ?_)
              clear hK hHeld1 K
              try simp only [Act.put, sA, sB, sC]
              generalize w0_a0.alloc (.cells #[.int .i64 x] 3) = w1_a01 at *
              generalize w0_a0.heap.size = zl at *
              refine wpAnyH_ready (rs := [4]) (by kernel_rfl) (by simp) (AllReadyH.cons (o := ⟨some 48, _, _, _, _, _⟩) rfl (fun K hK => ?_) AllReadyH.nil)
              refine step_app0 i64C rfl (.tmp 44) (.tmp 47) rfl B0 rfl O rfl ((RD'.below hbd).take1 (k := j) (by omega)) (by rw [I_take']; exact I_oneC _) (by have := HCP.out; omega) (by have := HCP.out; omega) hsz ?_
              rintro A14 c14 w2_a010 ap
              obtain ⟨hb2, hkp⟩ := appC_keeps ap O hsz
              have O2 := ap.own
              clear ap O
              rw [List.nil_append] at O2
              obtain ⟨LT2, OF2⟩ := hkp LT OF
              clear LT OF
              have LT := LT2
              have OF := OF2
              clear LT2 OF2
              have O := O2
              replace hbd := hbd.trans hb2
              have hsz := Nat.le_trans hsz hb2.size
              clear O2 hkp hb2
              refine hK.out _ _ (cell_belowC C0 hbd HBX) (fun hHeld3 => ?_)
              clear hK hHeld2 K
              try simp only [Act.put, sA, sB, sC]
              refine wpAnyH_ready (rs := [10]) (by kernel_rfl) (by simp) (AllReadyH.cons (o := ⟨some 54, _, _, _, _, _⟩) rfl (fun K hK => ?_) AllReadyH.nil)
              refine step_app_law i64C rfl (.tmp 48) (.tmp 53) rfl B0 rfl O rfl LT (one_int _ _) (by have := HCP.out; omega) (by have := HCP.out; omega) hsz ?_
              rintro A20 c20 w3_a0100 ap
              obtain ⟨hb2, hkp⟩ := appC_keeps ap O hsz
              have O2 := ap.own
              clear ap O
              have O := O2
              replace hbd := hbd.trans hb2
              have hsz := Nat.le_trans hsz hb2.size
              clear O2 hkp hb2
              clear LT OF
              refine hK.out _ _ (cell_belowC C0 hbd HBX) (fun hHeld4 => ?_)
              clear hK hHeld3 K
              try simp only [Act.put, sA, sB, sC]
              refine wpAnyH_ready (rs := [14]) (by kernel_rfl) (by simp) (AllReadyH.cons (o := ⟨some 58, _, _, _, _, _⟩) rfl (fun K hK => ?_) AllReadyH.nil)
              refine step_app_law i64C rfl (.tmp 54) (.tmp 57) rfl B0 rfl O rfl (Rd.of_zero _ B0 1 (cutA A1 c1 j 1) rfl rfl) (by simp) (by have := HCP.out; omega) (by have := HCP.out; omega) hsz ?_
              rintro A24 c24 w4_a01000 ap
              obtain ⟨hb2, hkp⟩ := appC_keeps ap O hsz
              have O2 := ap.own
              clear ap O
              have O := O2
              replace hbd := hbd.trans hb2
              have hsz := Nat.le_trans hsz hb2.size
              clear O2 hkp hb2
              refine hK.out _ _ (cell_belowC C0 hbd HBX) (fun hHeld5 => ?_)
              clear hK hHeld4 K
              try simp only [Act.put, sA, sB, sC]
              refine tk 15 3 rfl hHeld5 ?_
              refine wpAnyH_done (by kernel_rfl) ?_ _
              clear hHeld5
              have HO := Lib.hid O
              clear O
              go_wp2
              go_roundw
              case rel => exact ⟨k + 1, _, A24, c24, by omega, rfl, by go_num, by omega, own_cap HO.out, by rw [HT.out, HINS.out]; exact Rd.of_own (by have h1 := HO.out; rw [I_take', show [Value.int .i64 x] = I [x] from rfl, show ([] : List Value) = I [] from rfl, ← I_appC, ← I_appC] at h1; exact h1), BD.trans (hbd.mono hbs)⟩
              case measure => simp [intOf]; omega
          · skip
            go_simp
            have LT := (Rd.one wd (.int .i64 x) 3).more (show _ ≤ (wd.alloc (.cells #[.int .i64 x] 3)).heap.size by simp)
            replace hbd := hbd.alloc hsz (.cells #[.int .i64 x] 3)
            replace hsz : B0 ≤ (wd.alloc (.cells #[.int .i64 x] 3)).heap.size := by simp; omega
            refine hK.out _ _ (cell_belowC C0 hbd HBX) (fun hHeld1 => ?_)
            clear hK hHeld0 K
            try simp only [Act.put, sA, sB, sC]
            generalize wd.alloc (.cells #[.int .i64 x] 3) = w0_a1 at *
            generalize wd.heap.size = zl at *
            refine wpAnyH_ready (rs := [0]) (by kernel_rfl) (by simp) (AllReadyH.cons (o := ⟨some 44, _, _, _, _, _⟩) rfl (fun K hK => ?_) AllReadyH.nil)
            go_simp
            have O := own_mono (litC w0_a1) hsz
            replace hbd := hbd.alloc hsz (.cells #[] 3)
            replace hsz : B0 ≤ (w0_a1.alloc (.cells #[] 3)).heap.size := by simp; omega
            have OF := off_new (n := 0) (c := 0) LT (Nat.le_refl _)
            replace LT : Rd (w0_a1.alloc (.cells #[] 3)) (w0_a1.alloc (.cells #[] 3)).heap.size 1 (some ⟨zl, 0, none⟩) 1 [.int .i64 x] := (LT.alloc (Nat.le_refl _) (.cells #[] 3)).more (by simp)
            refine hK.out _ _ (cell_belowC C0 hbd HBX) (fun hHeld2 => ?_)
            clear hK hHeld1 K
            try simp only [Act.put, sA, sB, sC]
            generalize w0_a1.alloc (.cells #[] 3) = w1_a10 at *
            generalize w0_a1.heap.size = za at *
            refine wpAnyH_ready (rs := [4]) (by kernel_rfl) (by simp) (AllReadyH.cons (o := ⟨some 48, _, _, _, _, _⟩) rfl (fun K hK => ?_) AllReadyH.nil)
            refine step_app0 i64C rfl (.tmp 44) (.tmp 47) rfl B0 rfl O rfl ((RD'.below hbd).take1 (k := j) (by omega)) (by rw [I_take']; exact I_oneC _) (by have := HCP.out; omega) (by have := HCP.out; omega) hsz ?_
            rintro A14 c14 w2_a100 ap
            obtain ⟨hb2, hkp⟩ := appC_keeps ap O hsz
            have O2 := ap.own
            clear ap O
            rw [List.nil_append] at O2
            obtain ⟨LT2, OF2⟩ := hkp LT OF
            clear LT OF
            have LT := LT2
            have OF := OF2
            clear LT2 OF2
            have O := O2
            replace hbd := hbd.trans hb2
            have hsz := Nat.le_trans hsz hb2.size
            clear O2 hkp hb2
            refine hK.out _ _ (cell_belowC C0 hbd HBX) (fun hHeld3 => ?_)
            clear hK hHeld2 K
            try simp only [Act.put, sA, sB, sC]
            refine wpAnyH_ready (rs := [10]) (by kernel_rfl) (by simp) (AllReadyH.cons (o := ⟨some 54, _, _, _, _, _⟩) rfl (fun K hK => ?_) AllReadyH.nil)
            refine step_app_law i64C rfl (.tmp 48) (.tmp 53) rfl B0 rfl O rfl LT (one_int _ _) (by have := HCP.out; omega) (by have := HCP.out; omega) hsz ?_
            rintro A20 c20 w3_a1000 ap
            obtain ⟨hb2, hkp⟩ := appC_keeps ap O hsz
            have O2 := ap.own
            clear ap O
            have O := O2
            replace hbd := hbd.trans hb2
            have hsz := Nat.le_trans hsz hb2.size
            clear O2 hkp hb2
            clear LT OF
            refine hK.out _ _ (cell_belowC C0 hbd HBX) (fun hHeld4 => ?_)
            clear hK hHeld3 K
            try simp only [Act.put, sA, sB, sC]
            refine wpAnyH_ready (rs := [14]) (by kernel_rfl) (by simp) (AllReadyH.cons (o := ⟨some 58, _, _, _, _, _⟩) rfl (fun K hK => ?_) AllReadyH.nil)
            refine step_app_law i64C rfl (.tmp 54) (.tmp 57) rfl B0 rfl O rfl (Rd.of_zero _ B0 1 (cutA A1 c1 j 1) rfl rfl) (by simp) (by have := HCP.out; omega) (by have := HCP.out; omega) hsz ?_
            rintro A24 c24 w4_a10000 ap
            obtain ⟨hb2, hkp⟩ := appC_keeps ap O hsz
            have O2 := ap.own
            clear ap O
            have O := O2
            replace hbd := hbd.trans hb2
            have hsz := Nat.le_trans hsz hb2.size
            clear O2 hkp hb2
            refine hK.out _ _ (cell_belowC C0 hbd HBX) (fun hHeld5 => ?_)
            clear hK hHeld4 K
            try simp only [Act.put, sA, sB, sC]
            refine tk 15 3 rfl hHeld5 ?_
            refine wpAnyH_done (by kernel_rfl) ?_ _
            clear hHeld5
            have HO := Lib.hid O
            clear O
            go_wp2
            go_roundw
            case rel => exact ⟨k + 1, _, A24, c24, by omega, rfl, by go_num, by omega, own_cap HO.out, by rw [HT.out, HINS.out]; exact Rd.of_own (by have h1 := HO.out; rw [I_take', show [Value.int .i64 x] = I [x] from rfl, show ([] : List Value) = I [] from rfl, ← I_appC, ← I_appC] at h1; exact h1), BD.trans (hbd.mono hbs)⟩
            case measure => simp [intOf]; omega
    · obtain rfl : k = n := by omega
      rw [List.take_of_length_le (by have := HL.out; omega)] at R
      have HR := Lib.hid R
      clear R hlo HUP
      go_wp2
      go_ret
      exact ⟨⟨A1, m, c1, rfl, HR.out, hc1, hc2⟩, b⟩
end Go.Proofs.Ytlafmonfhkgcfaa
