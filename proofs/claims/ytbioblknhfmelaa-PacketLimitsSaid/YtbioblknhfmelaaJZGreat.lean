/- ZGreat (merged). -/
import Derived.Deep.QuietTactic
import Derived.Test.YtbioblknhfmelaaJZBuild
namespace Go.Proofs.Ytbioblknhfmelaa
set_option linter.unusedVariables false
set_option linter.unusedSimpArgs false
open Go.RowKit
/-- a packet that is looked at -/
structure PSmall (u : Pv) : Prop where
  n : u.n1 ≤ 3000 ∧ u.n2 ≤ 3000 ∧ u.n3 ≤ 3000 ∧ u.n4 ≤ 3000
  q : ∀ q ∈ u.x.qs, q.name.length ≤ 3000
  r : ∀ j, j < 3 → ∀ r ∈ Pk.lst u.x j, r.name.length ≤ 3000 ∧ r.data.length ≤ 3000
theorem PSmall.mod {u : Pv} (h : PSmall u) : PMod u := by
  obtain ⟨⟨a, b, c, d⟩, hq, hr⟩ := h
  have L := fun j hj r hm => hr j hj r hm
  refine ⟨⟨by omega, by omega, by omega, by omega⟩, fun q hm => by have := hq q hm; omega, fun r hm => ?_, fun r hm => ?_, fun r hm => ?_⟩
  · have := L 0 (by omega) r hm; omega
  · have := L 1 (by omega) r hm; omega
  · have := L 2 (by omega) r hm; omega
theorem sum_in {a b m n : Nat} (ha : a ≤ m) (hb : b ≤ n) (h : m + n ≤ 9223372036854775807) : wrap64 ((a : Int) + (b : Int)) = ((a + b : Nat) : Int) := by unfold wrap64; omega
theorem meas {k n : Nat} (h : k < n) : n - (((k + 1 : Nat) : Int)).toNat < n - ((k : Int)).toNat := by simp; omega
theorem low_le' {s t : Nat} (h : t ≤ 3000) (h2 : s ≤ t) : s ≤ 3000 := by omega
theorem add_le2 (s l d : Nat) : s ≤ s + l + d := by omega
theorem idx_more {k n : Nat} (h : k < n) (hn : n ≤ 140737488351232) : wrap64 ((k : Int) + 1) = ((k + 1 : Nat) : Int) := by unfold wrap64; omega
/-- a length that memory holds -/
def Len (n : Nat) : Prop := n ≤ 140737488351232
/-- a sum on the way -/
def Mid (n : Nat) : Prop := n ≤ 1000000000000000
/-- within what is looked at -/
def Low (n : Nat) : Prop := n ≤ 3000
theorem low_le {s t : Nat} (h : Low t) (h2 : s ≤ t) : Low s := low_le' h h2
theorem low_mid {s l : Nat} (h : Low s) (h1 : Len l) : Mid (s + l) ∧ wrap64 ((s : Int) + (l : Int)) = ((s + l : Nat) : Int) := by
  unfold Low at h; unfold Len at h1; unfold Mid
  exact ⟨by omega, sum_in h h1 (by omega)⟩
theorem low_mid2 {s l d : Nat} (h : Low s) (h1 : Len l) (h2 : Len d) : Mid (s + l + d) ∧ wrap64 ((s : Int) + (l : Int)) = ((s + l : Nat) : Int) ∧ wrap64 (((s + l : Nat) : Int) + (d : Int)) = ((s + l + d : Nat) : Int) := by
  unfold Low at h; unfold Len at h1 h2; unfold Mid
  exact ⟨by omega, sum_in h h1 (by omega), sum_in (m := 140737488354232) (by omega) h2 (by omega)⟩
theorem low_yes {s : Nat} (h : Low s) : decide ((s : Int) ≤ 3000) = true ∧ decide ((3000 : Int) < (s : Int)) = false := by unfold Low at h; exact ⟨decide_eq_true (by omega), decide_eq_false (by omega)⟩
theorem low_no {s : Nat} (h : ¬ Low s) : decide ((s : Int) ≤ 3000) = false ∧ decide ((3000 : Int) < (s : Int)) = true := by unfold Low at h; exact ⟨decide_eq_false (by omega), decide_eq_true (by omega)⟩
theorem str_len (l : List UInt8) {n : Nat} (h : l.length = n) : ((strB l).size : Int) = (n : Int) := by rw [strB_size, h]
/-- the questions' names so far are within the sum -/
def QLow (p : Pck) (k s : Nat) : Prop := Low s → ∀ q ∈ p.qs.take k, Low q.name.length
theorem QLow.more {p : Pck} {k s : Nat} {q : Qst} (h : QLow p k s) (hq : p.qs[k]? = some q) (n : Nat) (hn : q.name.length = n) : QLow p (k + 1) (s + n) := fun hl x hx => by
  rw [take_more hq] at hx
  unfold Low at *
  rcases List.mem_append.1 hx with hx | hx
  · exact h (by unfold Low; omega) x hx
  · obtain rfl : x = q := by simpa using hx
    omega
def RLow (l : List Rrc) : Prop := ∀ r ∈ l, Low r.name.length ∧ Low r.data.length
theorem RLow.more {l : List Rrc} {k s : Nat} {r : Rrc} (h : Low s → RLow (l.take k)) (hr : l[k]? = some r) {n d : Nat} (hn : r.name.length = n) (hd : r.data.length = d) : Low (s + n + d) → RLow (l.take (k + 1)) := fun hl x hx => by
  rw [take_more hr] at hx
  unfold Low at hl
  rcases List.mem_append.1 hx with hx | hx
  · exact h (by unfold Low; omega) x hx
  · obtain rfl : x = r := by simpa using hx
    unfold Low
    omega
set_option maxHeartbeats 8000000 in
set_option maxRecDepth 20000 in
theorem rpgreat_any (u : Pv) (w : World) (h : PRd w u) (hz : PSz u) : Calls Try.prog 8 #[pval u] w fun e w' => ∃ b, e = .returned (.bool b) ∧ (b = false → PSmall u) ∧ Below w.heap.size w w' := by
  obtain ⟨p, A1, n1, c1, A2, n2, c2, A3, n3, c3, A4, n4, c4⟩ := u
  obtain ⟨zi, hzi⟩ : ∃ z, p.id = z := ⟨_, rfl⟩
  obtain ⟨zf, hzf⟩ : ∃ z, p.flags = z := ⟨_, rfl⟩
  simp only [pval, hzi, hzf]
  obtain ⟨h1, h2, h3, h4⟩ := h
  simp only at h1 h2 h3 h4
  have HZ := Lib.hid hz
  have T : Hid ((wrap64 ((n1 : Int) + (n2 : Int)) = ((n1 + n2 : Nat) : Int)) ∧ (wrap64 (((n1 + n2 : Nat) : Int) + (n3 : Int)) = ((n1 + n2 + n3 : Nat) : Int)) ∧ (wrap64 (((n1 + n2 + n3 : Nat) : Int) + (n4 : Int)) = ((n1 + n2 + n3 + n4 : Nat) : Int)) ∧ Mid (n1 + n2 + n3 + n4)) := Lib.hid (by
    obtain ⟨a1, a2, a3, a4, _⟩ := hz
    have a1' : n1 * 32 ≤ 140737488351232 := a1
    have a2' : n2 * 56 ≤ 140737488351232 := a2
    have a3' : n3 * 56 ≤ 140737488351232 := a3
    have a4' : n4 * 56 ≤ 140737488351232 := a4
    refine ⟨sum_in (m := 140737488351232) (n := 140737488351232) (by omega) (by omega) (by omega), sum_in (m := 281474976702464) (n := 140737488351232) (by omega) (by omega) (by omega), sum_in (m := 422212465053696) (n := 140737488351232) (by omega) (by omega) (by omega), ?_⟩
    unfold Mid
    omega)
  have NB : Hid (n1 ≤ 140737488351232 ∧ n2 ≤ 140737488351232 ∧ n3 ≤ 140737488351232 ∧ n4 ≤ 140737488351232) := Lib.hid (by
    obtain ⟨a1, a2, a3, a4, _⟩ := hz
    have a1' : n1 * 32 ≤ 140737488351232 := a1
    have a2' : n2 * 56 ≤ 140737488351232 := a2
    have a3' : n3 * 56 ≤ 140737488351232 := a3
    have a4' : n4 * 56 ≤ 140737488351232 := a4
    omega)
  obtain ⟨t1, ht1⟩ : ∃ x, n1 + n2 = x := ⟨_, rfl⟩
  obtain ⟨t2, ht2⟩ : ∃ x, t1 + n3 = x := ⟨_, rfl⟩
  obtain ⟨t3, ht3⟩ : ∃ x, t2 + n4 = x := ⟨_, rfl⟩
  rw [ht1, ht2, ht3] at T
  have TS : Hid (n1 ≤ t3 ∧ n2 ≤ t3 ∧ n3 ≤ t3 ∧ n4 ≤ t3) := Lib.hid (by omega)
  clear ht1 ht2 ht3 hz hzi hzf
  have b := (Below.refl w.heap.size w).alloc (Nat.le_refl _) (.cells #[.int .i64 zi, .int .i64 zf, .slice A1 n1 c1, .slice A2 n2 c2, .slice A3 n3 c3, .slice A4 n4 c4] 25)
  have X := Box.new w #[.int .i64 zi, .int .i64 zf, .slice A1 n1 c1, .slice A2 n2 c2, .slice A3 n3 c3, .slice A4 n4 c4] 25
  replace h1 := h1.belowH b
  replace h2 := h2.belowH b
  replace h3 := h3.belowH b
  replace h4 := h4.belowH b
  have x2 := X.at 2 rfl
  have x3 := X.at 3 rfl
  have x4 := X.at 4 rfl
  have x5 := X.at 5 rfl
  have hs : (w.alloc (.cells #[.int .i64 zi, .int .i64 zf, .slice A1 n1 c1, .slice A2 n2 c2, .slice A3 n3 c3, .slice A4 n4 c4] 25)).heap.size = w.heap.size + 1 := by simp
  obtain ⟨v1, v2, v3, hmid⟩ := T.out
  go_enter Try.func8, Try.ntmps8
  go_wp2_with fail
  generalize w.alloc (.cells #[.int .i64 zi, .int .i64 zf, .slice A1 n1 c1, .slice A2 n2 c2, .slice A3 n3 c3, .slice A4 n4 c4] 25) = w1 at *
  have LN := Lib.hid h1.lenQ
  have HPlt : w.heap.size < w1.heap.size := by omega
  clear hs x3 x4 x5 v1 v2 x2
  go_loopw [3, 4] (fun v i wr => ∃ (k s : Nat), k ≤ n1 ∧ v = .int .i64 (s : Int) ∧ i = .int .i64 (k : Int) ∧ Mid s ∧ Hid (t3 ≤ s) ∧ QLow p k s ∧ Below w1.heap.size w1 wr) (fun _ i _ => n1 - (intOf i).toNat)
  case atStart => exact ⟨0, t3, Nat.zero_le _, congrArg (Value.int .i64) v3, rfl, hmid, Lib.hid (Nat.le_refl _), fun _ q hq => by simp at hq, Below.refl _ _⟩
  case round =>
    clear hmid v3
    obtain ⟨k, s, hk, rfl, rfl, hmid, hts, hql, hb⟩ := hrel
    have X1 := X.belowH hb
    have g1 := h1.belowH hb
    have x2 := X1.at 2 rfl
    by_cases hlt : k < n1
    · by_cases hlow : Low s
      · have LY := Lib.hid (low_yes hlow)
        obtain ⟨ly, lz⟩ := LY.out
        obtain ⟨bq, oq, q, rfl, hbq, hq, q0, q1, q2⟩ := g1.atQ hlt
        obtain ⟨ln, hln⟩ : ∃ x, q.name.length = x := ⟨_, rfl⟩
        have LL : Len ln := by rw [← hln]; exact HZ.out.2.2.2.2.2.2.2.2.2.2.2.2.1 q (List.mem_of_getElem? hq)
        have hsl := str_len q.name hln
        have HQ := Lib.hid hq
        have HLN := Lib.hid hln
        obtain ⟨mid2, vv⟩ := low_mid hlow LL
        obtain ⟨s2, hs2⟩ : ∃ x, s + ln = x := ⟨_, rfl⟩
        rw [hs2] at vv mid2
        have HS2 := Lib.hid hs2
        have hk0 : (0 : Int) ≤ (k : Int) := Int.natCast_nonneg k
        have vk := idx_more hlt NB.out.1
        clear hq hln hs2
        go_wp2
        go_roundw
        case rel => exact ⟨k + 1, s2, hlt, congrArg (Value.int .i64) vv, congrArg (Value.int .i64) vk, mid2, Lib.hid (by have := hts.out; have := HS2.out; omega), by have := hql.more HQ.out ln HLN.out; rwa [HS2.out] at this, hb⟩
        case measure => rw [vk]; exact meas hlt
      · have LY := Lib.hid (low_no hlow)
        obtain ⟨ly, lz⟩ := LY.out
        have QALL : Hid (Low s → ∀ q ∈ p.qs, Low q.name.length) := Lib.hid (fun h => absurd h hlow)
        clear hk
        have x3 := X1.at 3 rfl
        have x4 := X1.at 4 rfl
        have x5 := X1.at 5 rfl
        have LBX := Box.new wr #[.slice A2 n2 c2, .slice A3 n3 c3, .slice A4 n4 c4] 51
        have hbz := hb.alloc hb.size (.cells #[.slice A2 n2 c2, .slice A3 n3 c3, .slice A4 n4 c4] 51)
        have hsz : (wr.alloc (.cells #[.slice A2 n2 c2, .slice A3 n3 c3, .slice A4 n4 c4] 51)).heap.size = wr.heap.size + 1 := by simp
        have hs1 := hb.size
        clear hql
        go_wp2_with fail
        clear ly lz LY hlow
        generalize wr.alloc (.cells #[.slice A2 n2 c2, .slice A3 n3 c3, .slice A4 n4 c4] 51) = wz at *
        generalize wr.heap.size = s1 at *
        have HSL : Hid (s1 < wz.heap.size) := Lib.hid (by omega)
        clear X1 g1 x2 x3 x4 x5 hb hsz
        obtain ⟨sq, hsq⟩ : ∃ x, s = x := ⟨_, rfl⟩
        have QA2 : Hid (Low sq → ∀ q ∈ p.qs, Low q.name.length) := Lib.hid (by rw [← hsq]; exact QALL.out)
        have SQ : Hid (sq ≤ s) := Lib.hid (by omega)
        clear hsq QALL
        go_loopw [3, 6] (fun v i wr' => ∃ (j s : Nat), v = .int .i64 (s : Int) ∧ i = .int .i64 (j : Int) ∧ j ≤ 3 ∧ Mid s ∧ Hid (t3 ≤ s ∧ sq ≤ s) ∧ Hid (Low s → ∀ i, i < j → RLow (Pk.lst p i)) ∧ Below wz.heap.size wz wr') (fun _ i _ => 3 - (intOf i).toNat)
        case atStart => exact ⟨0, s, rfl, rfl, by omega, hmid, Lib.hid ⟨hts.out, SQ.out⟩, Lib.hid (fun _ i hi => absurd hi (Nat.not_lt_zero _)), Below.refl _ _⟩
        case round =>
          clear hmid hts SQ
          obtain ⟨j, s, rfl, rfl, hj, hmid, hts, hrl, hb⟩ := hrel
          by_cases hj3 : j < 3
          · obtain ⟨Aj, nj, cj, hlb, hrj⟩ := cell_lst (c2 := c2) (c3 := c3) (c4 := c4) h2 h3 h4 hj3
            have HLB := Lib.hid hlb
            have hjl : Hid ((Pk.lst p j).length = nj) := Lib.hid hrj.lenR
            have NJ : Hid (nj ≤ 140737488351232) := Lib.hid (by
              rcases Pk.three hj3 with rfl | rfl | rfl
              · have e : (Value.slice A2 n2 c2) = .slice Aj nj cj := by simpa using hlb
                injection e with _ e; rw [← e]; exact NB.out.2.1
              · have e : (Value.slice A3 n3 c3) = .slice Aj nj cj := by simpa using hlb
                injection e with _ e; rw [← e]; exact NB.out.2.2.1
              · have e : (Value.slice A4 n4 c4) = .slice Aj nj cj := by simpa using hlb
                injection e with _ e; rw [← e]; exact NB.out.2.2.2)
            have HRJ : Hid (∀ r ∈ Pk.lst p j, Len r.name.length ∧ Len r.data.length) := Lib.hid fun r hr => HZ.out.2.2.2.2.2.2.2.2.2.2.2.2.2 r (by
              have := Pk.lst_mem hj3 hr
              unfold Pk.all
              rcases this with h | h | h <;> simp [h])
            have hj0 : (0 : Int) ≤ (j : Int) := by omega
            have hj3' : (j : Int) < 3 := by omega
            clear hlb
            go_wp2
            go_loopw [3, 7] (fun v i wr' => ∃ (k s : Nat), v = .int .i64 (s : Int) ∧ i = .int .i64 (k : Int) ∧ k ≤ nj ∧ Mid s ∧ Hid (t3 ≤ s ∧ sq ≤ s) ∧ Hid (Low s → ∀ i, i < j → RLow (Pk.lst p i)) ∧ Hid (Low s → RLow ((Pk.lst p j).take k)) ∧ Below wz.heap.size wz wr') (fun _ i _ => nj - (intOf i).toNat)
            case atStart => exact ⟨0, s, rfl, rfl, Nat.zero_le _, hmid, hts, hrl, Lib.hid (fun _ r hr => by simp at hr), hb⟩
            case round =>
              clear hmid hts hrl hb
              obtain ⟨k, s, rfl, rfl, hk, hmid, hts, hrl, hrk, hb⟩ := hrel
              have L8 := LBX.below hb HSL.out
              have l0 := L8.at j HLB.out
              by_cases hlow : Low s
              · have LY := Lib.hid (low_yes hlow)
                obtain ⟨ly, lz⟩ := LY.out
                by_cases hlt : k < nj
                · have gj := hrj.belowH ((hbz.mono (Nat.le_refl _)).trans (hb.mono hbz.size))
                  obtain ⟨bq, oq, r, rfl, hbq, hq, r0, r1, r2, r3, r4⟩ := gj.atR hlt
                  obtain ⟨ln, hln⟩ : ∃ x, r.name.length = x := ⟨_, rfl⟩
                  obtain ⟨ld, hld⟩ : ∃ x, r.data.length = x := ⟨_, rfl⟩
                  have LL : Len ln ∧ Len ld := by rw [← hln, ← hld]; exact HRJ.out r (List.mem_of_getElem? hq)
                  have hsl := str_len r.name hln
                  have hsd := str_len r.data hld
                  obtain ⟨mid2, vv1, vv2⟩ := low_mid2 hlow LL.1 LL.2
                  have RM := Lib.hid (RLow.more hrk.out hq hln hld)
                  have MO : Hid (s ≤ s + ln + ld) := Lib.hid (add_le2 s ln ld)
                  obtain ⟨s3, hs3⟩ : ∃ x, s + ln = x := ⟨_, rfl⟩
                  obtain ⟨s2, hs2⟩ : ∃ x, s3 + ld = x := ⟨_, rfl⟩
                  rw [hs3] at vv1 vv2 mid2 RM MO
                  rw [hs2] at vv2 mid2 RM MO
                  have hk0 : (0 : Int) ≤ (k : Int) := Int.natCast_nonneg k
                  have vk := idx_more hlt NJ.out
                  clear hq hln hld hs2 hs3 gj r1 r2 r3 LL
                  go_wp2
                  go_quiet (fail)
                  go_wp2
                  go_roundw
                  case rel => exact ⟨k + 1, s2, congrArg (Value.int .i64) vv2, congrArg (Value.int .i64) vk, hlt, mid2, Lib.hid ⟨Nat.le_trans hts.out.1 MO.out, Nat.le_trans hts.out.2 MO.out⟩, Lib.hid (fun h => hrl.out (low_le h MO.out)), RM, kdrewB hb _⟩
                  case measure => rw [vk]; exact meas hlt
                · go_wp2
                  go_roundw
                  case rel => exact ⟨j + 1, s, rfl, by go_num, by omega, hmid, hts, Lib.hid (fun h i hi => by
                    by_cases e : i < j
                    · exact hrl.out h i e
                    · obtain rfl : i = j := by omega
                      have := hrk.out h
                      rwa [List.take_of_length_le (by rw [hjl.out]; omega)] at this), hb⟩
                  case measure => simp [intOf]; omega
              · have LY := Lib.hid (low_no hlow)
                obtain ⟨ly, lz⟩ := LY.out
                by_cases hlt : k < nj
                · go_wp2
                  go_roundw
                  case rel => exact ⟨j + 1, s, rfl, by go_num, by omega, hmid, hts, Lib.hid (fun h => absurd h hlow), hb⟩
                  case measure => simp [intOf]; omega
                · go_wp2
                  go_roundw
                  case rel => exact ⟨j + 1, s, rfl, by go_num, by omega, hmid, hts, Lib.hid (fun h => absurd h hlow), hb⟩
                  case measure => simp [intOf]; omega
          · obtain rfl : j = 3 := by omega
            by_cases hlow : Low s
            · have LY := Lib.hid (low_yes hlow)
              obtain ⟨ly, lz⟩ := LY.out
              have PS : Hid (PSmall (⟨p, A1, n1, c1, A2, n2, c2, A3, n3, c3, A4, n4, c4⟩ : Pv)) := Lib.hid (by
                have l1 := TS.out
                have l2 := hts.out.1
                have l3 : s ≤ 3000 := hlow
                exact ⟨⟨by show n1 ≤ 3000; omega, by show n2 ≤ 3000; omega, by show n3 ≤ 3000; omega, by show n4 ≤ 3000; omega⟩, QA2.out (low_le hlow hts.out.2), fun i hi r hr => hrl.out hlow i hi r hr⟩)
              go_wp2
              go_ret
              exact ⟨false, rfl, fun _ => PS.out, b.trans ((hbz.trans (hb.mono hbz.size)).mono (by omega))⟩
            · have LY := Lib.hid (low_no hlow)
              obtain ⟨ly, lz⟩ := LY.out
              go_wp2
              go_ret
              exact ⟨true, rfl, fun h => (by cases h), b.trans ((hbz.trans (hb.mono hbz.size)).mono (by omega))⟩
    · have QALL : Hid (Low s → ∀ q ∈ p.qs, Low q.name.length) := Lib.hid (fun h => by have := hql h; rwa [List.take_of_length_le (by rw [LN.out]; omega)] at this)
      clear hk
      have x3 := X1.at 3 rfl
      have x4 := X1.at 4 rfl
      have x5 := X1.at 5 rfl
      have LBX := Box.new wr #[.slice A2 n2 c2, .slice A3 n3 c3, .slice A4 n4 c4] 51
      have hbz := hb.alloc hb.size (.cells #[.slice A2 n2 c2, .slice A3 n3 c3, .slice A4 n4 c4] 51)
      have hsz : (wr.alloc (.cells #[.slice A2 n2 c2, .slice A3 n3 c3, .slice A4 n4 c4] 51)).heap.size = wr.heap.size + 1 := by simp
      have hs1 := hb.size
      clear hql
      go_wp2_with fail
      generalize wr.alloc (.cells #[.slice A2 n2 c2, .slice A3 n3 c3, .slice A4 n4 c4] 51) = wz at *
      generalize wr.heap.size = s1 at *
      have HSL : Hid (s1 < wz.heap.size) := Lib.hid (by omega)
      clear X1 g1 x2 x3 x4 x5 hb hsz
      obtain ⟨sq, hsq⟩ : ∃ x, s = x := ⟨_, rfl⟩
      have QA2 : Hid (Low sq → ∀ q ∈ p.qs, Low q.name.length) := Lib.hid (by rw [← hsq]; exact QALL.out)
      have SQ : Hid (sq ≤ s) := Lib.hid (by omega)
      clear hsq QALL
      go_loopw [3, 6] (fun v i wr' => ∃ (j s : Nat), v = .int .i64 (s : Int) ∧ i = .int .i64 (j : Int) ∧ j ≤ 3 ∧ Mid s ∧ Hid (t3 ≤ s ∧ sq ≤ s) ∧ Hid (Low s → ∀ i, i < j → RLow (Pk.lst p i)) ∧ Below wz.heap.size wz wr') (fun _ i _ => 3 - (intOf i).toNat)
      case atStart => exact ⟨0, s, rfl, rfl, by omega, hmid, Lib.hid ⟨hts.out, SQ.out⟩, Lib.hid (fun _ i hi => absurd hi (Nat.not_lt_zero _)), Below.refl _ _⟩
      case round =>
        clear hmid hts SQ
        obtain ⟨j, s, rfl, rfl, hj, hmid, hts, hrl, hb⟩ := hrel
        by_cases hj3 : j < 3
        · obtain ⟨Aj, nj, cj, hlb, hrj⟩ := cell_lst (c2 := c2) (c3 := c3) (c4 := c4) h2 h3 h4 hj3
          have HLB := Lib.hid hlb
          have hjl : Hid ((Pk.lst p j).length = nj) := Lib.hid hrj.lenR
          have NJ : Hid (nj ≤ 140737488351232) := Lib.hid (by
            rcases Pk.three hj3 with rfl | rfl | rfl
            · have e : (Value.slice A2 n2 c2) = .slice Aj nj cj := by simpa using hlb
              injection e with _ e; rw [← e]; exact NB.out.2.1
            · have e : (Value.slice A3 n3 c3) = .slice Aj nj cj := by simpa using hlb
              injection e with _ e; rw [← e]; exact NB.out.2.2.1
            · have e : (Value.slice A4 n4 c4) = .slice Aj nj cj := by simpa using hlb
              injection e with _ e; rw [← e]; exact NB.out.2.2.2)
          have HRJ : Hid (∀ r ∈ Pk.lst p j, Len r.name.length ∧ Len r.data.length) := Lib.hid fun r hr => HZ.out.2.2.2.2.2.2.2.2.2.2.2.2.2 r (by
            have := Pk.lst_mem hj3 hr
            unfold Pk.all
            rcases this with h | h | h <;> simp [h])
          have hj0 : (0 : Int) ≤ (j : Int) := by omega
          have hj3' : (j : Int) < 3 := by omega
          clear hlb
          go_wp2
          go_loopw [3, 7] (fun v i wr' => ∃ (k s : Nat), v = .int .i64 (s : Int) ∧ i = .int .i64 (k : Int) ∧ k ≤ nj ∧ Mid s ∧ Hid (t3 ≤ s ∧ sq ≤ s) ∧ Hid (Low s → ∀ i, i < j → RLow (Pk.lst p i)) ∧ Hid (Low s → RLow ((Pk.lst p j).take k)) ∧ Below wz.heap.size wz wr') (fun _ i _ => nj - (intOf i).toNat)
          case atStart => exact ⟨0, s, rfl, rfl, Nat.zero_le _, hmid, hts, hrl, Lib.hid (fun _ r hr => by simp at hr), hb⟩
          case round =>
            clear hmid hts hrl hb
            obtain ⟨k, s, rfl, rfl, hk, hmid, hts, hrl, hrk, hb⟩ := hrel
            have L8 := LBX.below hb HSL.out
            have l0 := L8.at j HLB.out
            by_cases hlow : Low s
            · have LY := Lib.hid (low_yes hlow)
              obtain ⟨ly, lz⟩ := LY.out
              by_cases hlt : k < nj
              · have gj := hrj.belowH ((hbz.mono (Nat.le_refl _)).trans (hb.mono hbz.size))
                obtain ⟨bq, oq, r, rfl, hbq, hq, r0, r1, r2, r3, r4⟩ := gj.atR hlt
                obtain ⟨ln, hln⟩ : ∃ x, r.name.length = x := ⟨_, rfl⟩
                obtain ⟨ld, hld⟩ : ∃ x, r.data.length = x := ⟨_, rfl⟩
                have LL : Len ln ∧ Len ld := by rw [← hln, ← hld]; exact HRJ.out r (List.mem_of_getElem? hq)
                have hsl := str_len r.name hln
                have hsd := str_len r.data hld
                obtain ⟨mid2, vv1, vv2⟩ := low_mid2 hlow LL.1 LL.2
                have RM := Lib.hid (RLow.more hrk.out hq hln hld)
                have MO : Hid (s ≤ s + ln + ld) := Lib.hid (add_le2 s ln ld)
                obtain ⟨s3, hs3⟩ : ∃ x, s + ln = x := ⟨_, rfl⟩
                obtain ⟨s2, hs2⟩ : ∃ x, s3 + ld = x := ⟨_, rfl⟩
                rw [hs3] at vv1 vv2 mid2 RM MO
                rw [hs2] at vv2 mid2 RM MO
                have hk0 : (0 : Int) ≤ (k : Int) := Int.natCast_nonneg k
                have vk := idx_more hlt NJ.out
                clear hq hln hld hs2 hs3 gj r1 r2 r3 LL
                go_wp2
                go_quiet (fail)
                go_wp2
                go_roundw
                case rel => exact ⟨k + 1, s2, congrArg (Value.int .i64) vv2, congrArg (Value.int .i64) vk, hlt, mid2, Lib.hid ⟨Nat.le_trans hts.out.1 MO.out, Nat.le_trans hts.out.2 MO.out⟩, Lib.hid (fun h => hrl.out (low_le h MO.out)), RM, kdrewB hb _⟩
                case measure => rw [vk]; exact meas hlt
              · go_wp2
                go_roundw
                case rel => exact ⟨j + 1, s, rfl, by go_num, by omega, hmid, hts, Lib.hid (fun h i hi => by
                  by_cases e : i < j
                  · exact hrl.out h i e
                  · obtain rfl : i = j := by omega
                    have := hrk.out h
                    rwa [List.take_of_length_le (by rw [hjl.out]; omega)] at this), hb⟩
                case measure => simp [intOf]; omega
            · have LY := Lib.hid (low_no hlow)
              obtain ⟨ly, lz⟩ := LY.out
              by_cases hlt : k < nj
              · go_wp2
                go_roundw
                case rel => exact ⟨j + 1, s, rfl, by go_num, by omega, hmid, hts, Lib.hid (fun h => absurd h hlow), hb⟩
                case measure => simp [intOf]; omega
              · go_wp2
                go_roundw
                case rel => exact ⟨j + 1, s, rfl, by go_num, by omega, hmid, hts, Lib.hid (fun h => absurd h hlow), hb⟩
                case measure => simp [intOf]; omega
        · obtain rfl : j = 3 := by omega
          by_cases hlow : Low s
          · have LY := Lib.hid (low_yes hlow)
            obtain ⟨ly, lz⟩ := LY.out
            have PS : Hid (PSmall (⟨p, A1, n1, c1, A2, n2, c2, A3, n3, c3, A4, n4, c4⟩ : Pv)) := Lib.hid (by
              have l1 := TS.out
              have l2 := hts.out.1
              have l3 : s ≤ 3000 := hlow
              exact ⟨⟨by show n1 ≤ 3000; omega, by show n2 ≤ 3000; omega, by show n3 ≤ 3000; omega, by show n4 ≤ 3000; omega⟩, QA2.out (low_le hlow hts.out.2), fun i hi r hr => hrl.out hlow i hi r hr⟩)
            go_wp2
            go_ret
            exact ⟨false, rfl, fun _ => PS.out, b.trans ((hbz.trans (hb.mono hbz.size)).mono (by omega))⟩
          · have LY := Lib.hid (low_no hlow)
            obtain ⟨ly, lz⟩ := LY.out
            go_wp2
            go_ret
            exact ⟨true, rfl, fun h => (by cases h), b.trans ((hbz.trans (hb.mono hbz.size)).mono (by omega))⟩
end Go.Proofs.Ytbioblknhfmelaa

