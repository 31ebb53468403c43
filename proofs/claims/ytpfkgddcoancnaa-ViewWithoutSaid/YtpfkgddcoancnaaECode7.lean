/- The code's Join and Over. -/
import Derived.Test.YtpfkgddcoancnaaECode6
namespace Go.Proofs.Ytpfkgddcoancnaa
set_option linter.unusedVariables false
set_option linter.unusedSimpArgs false
open Go.RowKit

/-- what Join asks of the first table is what it would ask of what it has so far -/
theorem get_sofar {l r : List Ent} (hl : E.rising l) (hr : E.rising r) {k : Nat} {y : Ent} (hy : r[k]? = some y) : E.get (E.join l (r.take k)) y.key = E.get l y.key := by
  rw [E.get_join hl (E.rising_take hr k)]
  have : E.get (r.take k) y.key = none := E.get_rising_none fun z hz => by
    obtain ⟨i, hi, rfl⟩ := List.mem_iff_getElem.1 hz
    have hi2 : i < k := by rw [List.length_take] at hi; omega
    have := E.rising_at hr hi2 (x := (r.take k)[i]) (by rw [List.getElem_take]; exact List.getElem?_eq_getElem _) hy
    omega
  rw [this, E.best_none]

set_option maxHeartbeats 4000000 in
set_option maxRecDepth 20000 in
theorem join_any (l r : List Ent) (A A' : Option Addr) (n n' c c' B B' : Nat) (w : World) (h : Rd w B 3 A n (EC l)) (hB : B ≤ w.heap.size) (h' : Rd w B' 3 A' n' (EC r)) (hB' : B' ≤ w.heap.size) (hn : n ≤ 400000) (hn' : n' ≤ 400000) (hrise : E.rising l) (hrise' : E.rising r) :
    Calls Try.prog 55 #[.slice A n c, .slice A' n' c'] w (Made w (E.join l r)) := by
  have hl := h.lenE
  have hl' := h'.lenE
  have HL := Lib.hid hl
  have HL' := Lib.hid hl'
  have HR := Lib.hid hrise
  have HR' := Lib.hid hrise'
  clear hl hl' hrise hrise'
  go_enter Try.func55, Try.ntmps55
  go_wp2_with fail
  refine (clone_any l A n c B w h hB (by omega)).mono ?_
  rintro e w1 ⟨A1, n1, c1, rfl, hn1, hown1, hb1⟩
  obtain rfl : n1 = n := by rw [hn1, HL.out]
  have HB1 := Lib.hid hb1
  clear hb1 hn1
  go_wp2
  go_loopw [5, 14] (fun s i wr => ∃ (k m : Nat) (A2 : Option Addr) (c2 : Nat) (O : List Ent), k ≤ n' ∧ i = .int .i64 k ∧ s = .slice A2 m c2 ∧ O = E.join l (r.take k) ∧ m = O.length ∧ E.rising O ∧
      wr.ownsRow w.heap.size 59 3 (.slice A2 m c2) m (EC O) ∧ Below w.heap.size w wr) (fun _ i _ => n' - (intOf i).toNat)
  case atStart => exact ⟨0, n1, A1, c1, l, by omega, rfl, rfl, rfl, HL.out.symm, HR.out, hown1, HB1.out⟩
  case round =>
    obtain ⟨k, m, A2, c2, O, hk, rfl, rfl, hO, hm, hro, hown, hbel⟩ := hrel
    have HO := Lib.hid hO
    have HM := Lib.hid hm
    have HRO := Lib.hid hro
    have hml : m ≤ n1 + k := by
      have := E.join_length l (r.take k)
      rw [← hO, ← hm, List.length_take] at this
      have := HL.out
      omega
    have hbs := hbel.size
    clear hO hm hro
    by_cases hlt : k < n'
    · obtain ⟨b, o, y, e, hb, hy, d0, d1, d2⟩ := (h'.below (hbel.mono hB')).atE hlt
      subst e
      have hso := get_sofar HR.out HR'.out hy
      rw [← HO.out] at hso
      have HSO := Lib.hid hso
      have HY := Lib.hid hy
      have hbel3 := hbel.alloc hbs (.cells #[.int .i64 y.key, .int .i64 y.ver, .string (strB y.val)] 59)
      have hown3 := hown.alloc (.cells #[.int .i64 y.key, .int .i64 y.ver, .string (strB y.val)] 59)
      have X3 := Box.new wr #[.int .i64 y.key, .int .i64 y.ver, .string (strB y.val)] 59
      have hs3 : wr.heap.size < (wr.alloc (.cells #[.int .i64 y.key, .int .i64 y.ver, .string (strB y.val)] 59)).heap.size := by simp
      clear hy hso hown hbel
      go_wp2_with fail
      generalize wr.alloc (.cells #[.int .i64 y.key, .int .i64 y.ver, .string (strB y.val)] 59) = w3 at *
      refine (get_any l y.key A n1 c B w3 (h.below (hbel3.mono hB)) (by omega) (by omega)).mono ?_
      rintro e w4 ⟨rfl, hb4⟩
      have hbel4 := hbel3.trans (hb4.mono (by omega))
      have hown4 := own_below hown3 hb4
      have X4 := X3.below hb4 hs3
      have hbs4 := hbel4.size
      have hlt4 := X4.lt
      clear hb4 hown3 X3 hbel3
      rcases hg : E.get l y.key with _ | x
      · have hst := step_put (O := O) (y := y) (Or.inl (HSO.out.trans hg))
        have HST := Lib.hid hst
        clear hst hg
        simp only [getV, Option.isSome]
        have hbel5 := hbel4.alloc hbs4 (.cells #[.int .i64 0, .int .i64 0, .string ⟨#[]⟩] 59)
        have hown5 := hown4.alloc (.cells #[.int .i64 0, .int .i64 0, .string ⟨#[]⟩] 59)
        have X5 := X4.alloc (.cells #[.int .i64 0, .int .i64 0, .string ⟨#[]⟩] 59)
        have y0 := X5.at 0 rfl
        have y1 := X5.at 1 rfl
        have y2 := X5.at 2 rfl
        have hs5 : w.heap.size ≤ (w4.alloc (.cells #[.int .i64 0, .int .i64 0, .string ⟨#[]⟩] 59)).heap.size := hbel5.size
        clear hbel4 hown4 X4 X5
        go_wp2_with fail
        generalize w4.alloc (.cells #[.int .i64 0, .int .i64 0, .string ⟨#[]⟩] 59) = w5 at *
        refine (put_any O y A2 m c2 _ _ (Rd.of_own hown5) (Nat.le_refl _) (by omega) HRO.out).mono ?_
        rintro e w6 ⟨A3, m3, c3, rfl, hm3, hown6, hb6⟩
        have HM3 := Lib.hid hm3
        clear hm3
        go_wp2
        go_roundw
        case rel => exact ⟨k + 1, m3, A3, c3, E.put O y, by omega, by go_num, rfl, by rw [join_more l HY.out, ← HO.out, HST.out], HM3.out, E.put_rising HRO.out y, own_mono hown6 hs5, hbel5.trans (hb6.mono hs5)⟩
        case measure => simp [intOf]; omega
      · have HG := Lib.hid (HSO.out.trans hg)
        clear hg
        simp only [getV, Option.isSome, ev]
        have hbel5 := hbel4.alloc hbs4 (.cells #[.int .i64 x.key, .int .i64 x.ver, .string (strB x.val)] 59)
        have hown5 := hown4.alloc (.cells #[.int .i64 x.key, .int .i64 x.ver, .string (strB x.val)] 59)
        have X5 := X4.alloc (.cells #[.int .i64 x.key, .int .i64 x.ver, .string (strB x.val)] 59)
        have Z5 := Box.new w4 #[.int .i64 x.key, .int .i64 x.ver, .string (strB x.val)] 59
        have y0 := X5.at 0 rfl
        have y1 := X5.at 1 rfl
        have y2 := X5.at 2 rfl
        have z0 := Z5.at 0 rfl
        have z1 := Z5.at 1 rfl
        have z2 := Z5.at 2 rfl
        have hs5 : w.heap.size ≤ (w4.alloc (.cells #[.int .i64 x.key, .int .i64 x.ver, .string (strB x.val)] 59)).heap.size := hbel5.size
        have hs6 : w4.heap.size < (w4.alloc (.cells #[.int .i64 x.key, .int .i64 x.ver, .string (strB x.val)] 59)).heap.size := by simp
        clear hbel4 hown4 X4
        go_wp2_with fail
        generalize w4.alloc (.cells #[.int .i64 x.key, .int .i64 x.ver, .string (strB x.val)] 59) = w5 at *
        refine (above_any y x _).mono ?_
        rintro e w6 ⟨rfl, hb6⟩
        have hbel6 := hbel5.trans (hb6.mono hs5)
        have hown6 := own_below hown5 hb6
        have X6 := X5.below hb6 (by omega)
        have hs7 := hbel6.size
        clear y0 y1 y2 z0 z1 z2 hbel5 hown5 X5 Z5
        rcases hab : E.above y x
        · have hst := step_stay HG.out hab
          have HST := Lib.hid hst
          clear hst hab
          go_wp2
          go_roundw
          case rel => exact ⟨k + 1, m, A2, c2, O, by omega, by go_num, rfl, by rw [join_more l HY.out, ← HO.out, HST.out], HM.out, HRO.out, hown6, hbel6⟩
          case measure => simp [intOf]; omega
        · have hst := step_put (Or.inr ⟨x, HG.out, hab⟩)
          have HST := Lib.hid hst
          have y0 := X6.at 0 rfl
          have y1 := X6.at 1 rfl
          have y2 := X6.at 2 rfl
          clear hst hab
          go_wp2_with fail
          refine (put_any O y A2 m c2 _ _ (Rd.of_own hown6) (Nat.le_refl _) (by omega) HRO.out).mono ?_
          rintro e w7 ⟨A3, m3, c3, rfl, hm3, hown7, hb7⟩
          have HM3 := Lib.hid hm3
          clear hm3
          go_wp2
          go_roundw
          case rel => exact ⟨k + 1, m3, A3, c3, E.put O y, by omega, by go_num, rfl, by rw [join_more l HY.out, ← HO.out, HST.out], HM3.out, E.put_rising HRO.out y, own_mono hown7 hs7, hbel6.trans (hb7.mono hs7)⟩
          case measure => simp [intOf]; omega
    · have he : r.take k = r := List.take_of_length_le (by have := HL'.out; omega)
      have HE := Lib.hid he
      clear he
      go_wp2
      go_ret
      have h1 := HO.out
      rw [HE.out] at h1
      subst h1
      exact ⟨A2, m, c2, rfl, HM.out, hown, hbel⟩

end Go.Proofs.Ytpfkgddcoancnaa
