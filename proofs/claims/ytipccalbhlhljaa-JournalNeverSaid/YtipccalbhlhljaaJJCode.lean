/- JCode (merged). -/
import Derived.Deep.DeepCutAuto
import Derived.Test.YtipccalbhlhljaaJJC6
import Derived.Test.YtipccalbhlhljaaJJRef7
namespace Go.Proofs.Ytipccalbhlhljaa
set_option linter.unusedVariables false
set_option linter.unusedSimpArgs false
open Go.RowKit
set_option maxHeartbeats 4000000 in
set_option maxRecDepth 20000 in
theorem jformat_any (d : Dk) (A : Option Addr) (n c : Nat) (note : List UInt8) (w : World) (h : KRd w ⟨d, A, n, c⟩) (hn : n ≤ 1000) (hf : d.fuse ≤ 9223372036854775807) (hnt : note.length ≤ 9223372036854775807) :
    Calls Try.prog 18 #[.agg #[.slice A n c, .int .i64 d.fuse, .bool d.down], .string (strB note)] w (TripR (J.format d note) w) := by
  have hlen : d.secs.length = n := h.len
  have HLN := Lib.hid hlen
  clear hlen
  have P := (((Box.new w #[.slice A n c, .int .i64 d.fuse, .bool d.down] 34).alloc (.cells #[.slice none 0 0, .int .i64 0, .bool false] 34)).alloc (.cells #[.int .i64 0, .int .i64 0, .string ⟨#[]⟩] 23)).alloc (.cells #[.int .i64 1, .int .i64 1, .string (strB note)] 23)
  have V := ((Box.new (w.alloc (.cells #[.slice A n c, .int .i64 d.fuse, .bool d.down] 34)) #[.slice none 0 0, .int .i64 0, .bool false] 34).alloc (.cells #[.int .i64 0, .int .i64 0, .string ⟨#[]⟩] 23)).alloc (.cells #[.int .i64 1, .int .i64 1, .string (strB note)] 23)
  have Z := (Box.new ((w.alloc (.cells #[.slice A n c, .int .i64 d.fuse, .bool d.down] 34)).alloc (.cells #[.slice none 0 0, .int .i64 0, .bool false] 34)) #[.int .i64 0, .int .i64 0, .string ⟨#[]⟩] 23).alloc (.cells #[.int .i64 1, .int .i64 1, .string (strB note)] 23)
  have L := Box.new (((w.alloc (.cells #[.slice A n c, .int .i64 d.fuse, .bool d.down] 34)).alloc (.cells #[.slice none 0 0, .int .i64 0, .bool false] 34)).alloc (.cells #[.int .i64 0, .int .i64 0, .string ⟨#[]⟩] 23)) #[.int .i64 1, .int .i64 1, .string (strB note)] 23
  have bl := ((((Below.refl w.heap.size w).alloc (Nat.le_refl _) (.cells #[.slice A n c, .int .i64 d.fuse, .bool d.down] 34)).alloc (by simp) (.cells #[.slice none 0 0, .int .i64 0, .bool false] 34)).alloc (by simp; omega) (.cells #[.int .i64 0, .int .i64 0, .string ⟨#[]⟩] 23)).alloc (by simp; omega) (.cells #[.int .i64 1, .int .i64 1, .string (strB note)] 23)
  rw [show (w.alloc (.cells #[.slice A n c, .int .i64 d.fuse, .bool d.down] 34)).heap.size = w.heap.size + 1 by simp] at V
  rw [show ((w.alloc (.cells #[.slice A n c, .int .i64 d.fuse, .bool d.down] 34)).alloc (.cells #[.slice none 0 0, .int .i64 0, .bool false] 34)).heap.size = w.heap.size + 1 + 1 by simp] at Z
  rw [show (((w.alloc (.cells #[.slice A n c, .int .i64 d.fuse, .bool d.down] 34)).alloc (.cells #[.slice none 0 0, .int .i64 0, .bool false] 34)).alloc (.cells #[.int .i64 0, .int .i64 0, .string ⟨#[]⟩] 23)).heap.size = w.heap.size + 1 + 1 + 1 by simp] at L
  have R := h.belowH bl
  clear h
  have hin : RcIn ⟨1, 1, note⟩ := ⟨⟨by show -9223372036854775808 ≤ (1 : Int); omega, by show (1 : Int) ≤ 9223372036854775807; omega⟩, ⟨by show -9223372036854775808 ≤ (1 : Int); omega, by show (1 : Int) ≤ 9223372036854775807; omega⟩, hnt⟩
  have HIN := Lib.hid hin
  clear hin
  have p0 := P.at 0 rfl
  have p1 := P.at 1 rfl
  have p2 := P.at 2 rfl
  go_enter Try.func18, Try.ntmps18
  go_wp2_with fail
  clear p0 p1 p2
  generalize (((w.alloc (.cells #[.slice A n c, .int .i64 d.fuse, .bool d.down] 34)).alloc (.cells #[.slice none 0 0, .int .i64 0, .bool false] 34)).alloc (.cells #[.int .i64 0, .int .i64 0, .string ⟨#[]⟩] 23)).alloc (.cells #[.int .i64 1, .int .i64 1, .string (strB note)] 23) = w1 at *
  refine (kright_any ⟨d, A, n, c⟩ w1 R).mono ?_
  rintro e w2 ⟨rfl, hb⟩
  replace P := P.belowH hb
  replace V := V.belowH hb
  replace Z := Z.belowH hb
  replace L := L.belowH hb
  replace R := R.belowH hb
  replace bl := bl.trans (hb.mono bl.size)
  clear hb
  have p0 := P.at 0 rfl
  have p1 := P.at 1 rfl
  have p2 := P.at 2 rfl
  have pc := P.cold
  have v0 := V.at 0 rfl
  have v1 := V.at 1 rfl
  have v2 := V.at 2 rfl
  have vc := V.cold
  have z0 := Z.at 0 rfl
  have z1 := Z.at 1 rfl
  have z2 := Z.at 2 rfl
  have zc := Z.cold
  have l0 := L.at 0 rfl
  have l1 := L.at 1 rfl
  have l2 := L.at 2 rfl
  have lc := L.cold
  by_cases hr : K.right d
  rotate_left
  · rw [decide_eq_false hr]
    have FN := Lib.hid (J.format_a (note := note) (Or.inl hr))
    clear hr
    go_wp2_with fail
    refine (jrefuse_any d A n c 1 _ R hn).mono ?_
    rintro e w9 ⟨⟨A3, n3, c3, rfl, R3⟩, hb⟩
    (try dsimp only at R3)
    simp only [rv]
    clear p0 p1 p2 pc v0 v1 v2 vc z0 z1 z2 zc l0 l1 l2 lc
    replace V := V.belowH hb
    replace Z := Z.belowH hb
    replace bl := bl.trans (hb.mono bl.size)
    clear hb
    have v0 := V.at 0 rfl
    have v1 := V.at 1 rfl
    have v2 := V.at 2 rfl
    have vc := V.cold
    have z0 := Z.at 0 rfl
    have z1 := Z.at 1 rfl
    have z2 := Z.at 2 rfl
    have zc := Z.cold
    go_wp2
    have V2 := (V.three (.slice A3 n3 c3) (.int .i64 d.fuse) (.bool d.down)).other3' (show w.heap.size + 1 ≠ w.heap.size + 1 + 1 by omega) (.int .i64 J.none.seq) (.int .i64 J.none.gen) (.string (strB J.none.note))
    have Z2 := (Z.other3' (show w.heap.size + 1 + 1 ≠ w.heap.size + 1 by omega) (.slice A3 n3 c3) (.int .i64 d.fuse) (.bool d.down)).three (.int .i64 J.none.seq) (.int .i64 J.none.gen) (.string (strB J.none.note))
    have R2 := (R3.box3 V (.slice A3 n3 c3) (.int .i64 d.fuse) (.bool d.down)).box3 (Z.other3' (show w.heap.size + 1 + 1 ≠ w.heap.size + 1 by omega) (.slice A3 n3 c3) (.int .i64 d.fuse) (.bool d.down)) (.int .i64 J.none.seq) (.int .i64 J.none.gen) (.string (strB J.none.note))
    have b2 := below_three (below_three bl (show w.heap.size ≤ w.heap.size + 1 by omega) (.slice A3 n3 c3) (.int .i64 d.fuse) (.bool d.down)) (show w.heap.size ≤ w.heap.size + 1 + 1 by omega) (.int .i64 J.none.seq) (.int .i64 J.none.gen) (.string (strB J.none.note))
    have k0 := V2.at 0 rfl
    have k1 := V2.at 1 rfl
    have k2 := V2.at 2 rfl
    have r0 := Z2.at 0 rfl
    have r1 := Z2.at 1 rfl
    have r2 := Z2.at 2 rfl
    refine bodyPost_ret (v := .tuple #[.agg #[.slice A3 n3 c3, .int .i64 d.fuse, .bool d.down], .agg #[.int .i64 J.none.seq, .int .i64 J.none.gen, .string (strB J.none.note)], .int .i64 1]) (by simp [results, Try.results18, go_sem, k0, k1, k2, r0, r1, r2]; try rfl) rfl ⟨⟨_, _, _, by rw [FN.out]; rfl, by rw [FN.out]; exact R2⟩, b2⟩
  rw [decide_eq_true hr]
  have hfu : -1 ≤ d.fuse := hr.2
  have MAY : Hid (J.may ⟨1, 1, note⟩ ↔ note.length ≤ 30) := Lib.hid ⟨fun h => h.2.2.2.2, fun h => ⟨by show (1:Int) ≤ 1; omega, by show (1:Int) ≤ _; omega, by show (1:Int) ≤ 1; omega, by show (1:Int) ≤ _; omega, h⟩⟩
  have HR := Lib.hid hr
  clear hr
  by_cases ha : n < 2 ∨ 30 < note.length
  · have FN := Lib.hid (J.format_a (d := d) (note := note) (by rcases ha with h | h; exact Or.inr (Or.inl (by rw [HLN.out]; exact h)); exact Or.inr (Or.inr h)))
    have TK : Hid (decide (2 ≤ n ∧ J.may ⟨1, 1, note⟩) = false) := Lib.hid (decide_eq_false fun hc => by
      have h1 := hc.1
      have h2 := MAY.out.1 hc.2
      omega)
    clear ha
    go_wp2_with (go_at_call 38; refine (jtakes_any d.secs d.fuse d.down A n c ⟨1, 1, note⟩ _ HIN.out).mono ?_; rintro e w6 ⟨rfl, hb⟩; rw [TK.out]; replace P := P.belowH hb; replace V := V.belowH hb; replace Z := Z.belowH hb; replace L := L.belowH hb; replace R := R.belowH hb; replace bl := bl.trans (hb.mono bl.size); clear hb p0 p1 p2 pc l0 l1 l2 lc v0 v1 v2 vc z0 z1 z2 zc; have p0 := P.at 0 rfl; have p1 := P.at 1 rfl; have p2 := P.at 2 rfl)
    refine (jrefuse_any d A n c 1 _ R hn).mono ?_
    rintro e w9 ⟨⟨A3, n3, c3, rfl, R3⟩, hb⟩
    (try dsimp only at R3)
    simp only [rv]
    clear p0 p1 p2
    replace V := V.belowH hb
    replace Z := Z.belowH hb
    replace bl := bl.trans (hb.mono bl.size)
    clear hb
    have v0 := V.at 0 rfl
    have v1 := V.at 1 rfl
    have v2 := V.at 2 rfl
    have vc := V.cold
    have z0 := Z.at 0 rfl
    have z1 := Z.at 1 rfl
    have z2 := Z.at 2 rfl
    have zc := Z.cold
    go_wp2
    have V2 := (V.three (.slice A3 n3 c3) (.int .i64 d.fuse) (.bool d.down)).other3' (show w.heap.size + 1 ≠ w.heap.size + 1 + 1 by omega) (.int .i64 J.none.seq) (.int .i64 J.none.gen) (.string (strB J.none.note))
    have Z2 := (Z.other3' (show w.heap.size + 1 + 1 ≠ w.heap.size + 1 by omega) (.slice A3 n3 c3) (.int .i64 d.fuse) (.bool d.down)).three (.int .i64 J.none.seq) (.int .i64 J.none.gen) (.string (strB J.none.note))
    have R2 := (R3.box3 V (.slice A3 n3 c3) (.int .i64 d.fuse) (.bool d.down)).box3 (Z.other3' (show w.heap.size + 1 + 1 ≠ w.heap.size + 1 by omega) (.slice A3 n3 c3) (.int .i64 d.fuse) (.bool d.down)) (.int .i64 J.none.seq) (.int .i64 J.none.gen) (.string (strB J.none.note))
    have b2 := below_three (below_three bl (show w.heap.size ≤ w.heap.size + 1 by omega) (.slice A3 n3 c3) (.int .i64 d.fuse) (.bool d.down)) (show w.heap.size ≤ w.heap.size + 1 + 1 by omega) (.int .i64 J.none.seq) (.int .i64 J.none.gen) (.string (strB J.none.note))
    have k0 := V2.at 0 rfl
    have k1 := V2.at 1 rfl
    have k2 := V2.at 2 rfl
    have r0 := Z2.at 0 rfl
    have r1 := Z2.at 1 rfl
    have r2 := Z2.at 2 rfl
    refine bodyPost_ret (v := .tuple #[.agg #[.slice A3 n3 c3, .int .i64 d.fuse, .bool d.down], .agg #[.int .i64 J.none.seq, .int .i64 J.none.gen, .string (strB J.none.note)], .int .i64 1]) (by simp [results, Try.results18, go_sem, k0, k1, k2, r0, r1, r2]; try rfl) rfl ⟨⟨_, _, _, by rw [FN.out]; rfl, by rw [FN.out]; exact R2⟩, b2⟩
  have TK : Hid (decide (2 ≤ n ∧ J.may ⟨1, 1, note⟩) = true) := Lib.hid (decide_eq_true ⟨by omega, MAY.out.2 (by omega)⟩)
  have HOK : Hid (¬ (¬ K.right d ∨ d.secs.length < 2 ∨ 30 < note.length)) := Lib.hid (by rw [HLN.out]; rintro (h | h | h); exact h HR.out; exact ha (Or.inl h); exact ha (Or.inr h))
  have hn2 : 0 < n := by omega
  clear ha
  go_wp2_with (go_at_call 38; refine (jtakes_any d.secs d.fuse d.down A n c ⟨1, 1, note⟩ _ HIN.out).mono ?_; rintro e w6 ⟨rfl, hb⟩; rw [TK.out]; replace P := P.belowH hb; replace V := V.belowH hb; replace Z := Z.belowH hb; replace L := L.belowH hb; replace R := R.belowH hb; replace bl := bl.trans (hb.mono bl.size); clear hb p0 p1 p2 pc l0 l1 l2 lc v0 v1 v2 vc z0 z1 z2 zc; have p0 := P.at 0 rfl; have p1 := P.at 1 rfl; have p2 := P.at 2 rfl)
  clear p0 p1 p2
  go_loopw [29] (fun iv wr => ∃ (k : Nat) (A' : Option Addr) (n' c' : Nat), k ≤ n ∧ iv = .int .i64 (k : Int) ∧ (J.zeros d k).2 = 0 ∧ Box wr w.heap.size 34 #[.slice A' n' c', .int .i64 (J.zeros d k).1.fuse, .bool (J.zeros d k).1.down] ∧ KRd wr ⟨(J.zeros d k).1, A', n', c'⟩ ∧ Box wr (w.heap.size + 1) 34 #[.slice none 0 0, .int .i64 0, .bool false] ∧ Box wr (w.heap.size + 1 + 1) 23 #[.int .i64 0, .int .i64 0, .string ⟨#[]⟩] ∧ Box wr (w.heap.size + 1 + 1 + 1) 23 #[.int .i64 1, .int .i64 1, .string (strB note)] ∧ Below w.heap.size w wr) (fun iv _ => n - (intOf iv).toNat)
  case atStart => exact ⟨0, A, n, c, by omega, rfl, rfl, P, R, V, Z, L, bl⟩
  case round =>
    clear P R V Z L bl
    obtain ⟨k, A', n', c', hk, rfl, hz0, P, R, V, Z, L, bl⟩ := hrel
    have HZ0 := Lib.hid hz0
    obtain ⟨g, hg⟩ : ∃ g, (J.zeros d k).1 = g := ⟨_, rfl⟩
    rw [hg] at P R
    have hgf : -1 ≤ g.fuse ∧ g.fuse ≤ d.fuse := by rw [← hg]; exact J.zeros_fuse d hfu k
    have hgl : g.secs.length = n := by rw [← hg, J.zeros_len, HLN.out]
    have hnn : n' = n := by have h1 := R.len; simp only at h1; omega
    subst hnn
    have HG := Lib.hid hg
    clear hz0 hg hgl
    by_cases hkn : k < n'
    · obtain ⟨⟨y, er⟩, hy⟩ : ∃ z, K.put g (k : Int) K.zero = z := ⟨_, rfl⟩
      have HY := Lib.hid hy
      have HS : Hid (J.zeros d (k + 1) = (y, er)) := Lib.hid (by rw [J.zeros_step HZ0.out, HG.out, hy])
      have hk0 : (0 : Int) ≤ (k : Int) := by omega
      clear hy
      have p0 := P.at 0 rfl
      have p1 := P.at 1 rfl
      have p2 := P.at 2 rfl
      have pc := P.cold
      go_wp2_with (first | with_reducible refine sec_zero _ ?_)
      have ct := kput_any ⟨g, A', n', c'⟩ (k : Int) K.zero zero_len wr R hn (by show g.fuse ≤ _; omega)
      rw [HY.out] at ct
      refine ct.mono ?_
      clear ct
      rintro e w7 ⟨⟨A3, n3, c3, rfl, R3, fr⟩, hb⟩
      clear fr R
      try dsimp only at R3
      (try dsimp only)
      clear p0 p1 p2 pc
      replace P := P.belowH hb
      replace V := V.belowH hb
      replace Z := Z.belowH hb
      replace L := L.belowH hb
      replace bl := bl.trans (hb.mono bl.size)
      clear hb
      have p0 := P.at 0 rfl
      have p1 := P.at 1 rfl
      have p2 := P.at 2 rfl
      have pc := P.cold
      have R := R3.box3 P (.slice A3 n3 c3) (.int .i64 y.fuse) (.bool y.down)
      have V' := V.other3' (show w.heap.size + 1 ≠ w.heap.size by omega) (.slice A3 n3 c3) (.int .i64 y.fuse) (.bool y.down)
      have Z' := Z.other3' (show w.heap.size + 1 + 1 ≠ w.heap.size by omega) (.slice A3 n3 c3) (.int .i64 y.fuse) (.bool y.down)
      have L' := L.other3' (show w.heap.size + 1 + 1 + 1 ≠ w.heap.size by omega) (.slice A3 n3 c3) (.int .i64 y.fuse) (.bool y.down)
      have P' := P.three (.slice A3 n3 c3) (.int .i64 y.fuse) (.bool y.down)
      have b' := below_three bl (Nat.le_refl _) (.slice A3 n3 c3) (.int .i64 y.fuse) (.bool y.down)
      go_upto_region 9 with fail
      clear p0 p1 p2 pc P V Z L bl R3
      generalize ((w7.setCell ⟨w.heap.size, 0, none⟩ (.slice A3 n3 c3)).setCell ⟨w.heap.size, 1, none⟩ (.int .i64 y.fuse)).setCell ⟨w.heap.size, 2, none⟩ (.bool y.down) = w8 at *
      have P := P'
      have V := V'
      have Z := Z'
      have L := L'
      have bl := b'
      clear P' V' Z' L' b'
      by_cases he : er = 0
      · subst he
        go_wp2
        go_roundw
        case rel => exact ⟨k + 1, A3, n3, c3, by omega, by go_num, by rw [HS.out], by rw [HS.out]; exact P, by rw [HS.out]; exact R, V, Z, L, bl⟩
        case measure => simp [intOf]; omega
      · have t1 : (er != 0) = true := bne_iff_ne.2 he
        have FN : Hid (J.format d note = (y, J.none, er)) := Lib.hid (J.format_e HOK.out (by rw [HLN.out]; have h1 := J.zeros_stuck (d := d) (k := k + 1) (by rw [HS.out]; exact he) (n' - (k + 1)); rw [show k + 1 + (n' - (k + 1)) = n' by omega, HS.out] at h1; exact h1) he)
        clear he
        have p0 := P.at 0 rfl
        have p1 := P.at 1 rfl
        have p2 := P.at 2 rfl
        have pc := P.cold
        have v0 := V.at 0 rfl
        have v1 := V.at 1 rfl
        have v2 := V.at 2 rfl
        have vc := V.cold
        have z0 := Z.at 0 rfl
        have z1 := Z.at 1 rfl
        have z2 := Z.at 2 rfl
        have zc := Z.cold
        go_wp2
        have V2 := (V.three (.slice A3 n3 c3) (.int .i64 y.fuse) (.bool y.down)).other3' (show w.heap.size + 1 ≠ w.heap.size + 1 + 1 by omega) (.int .i64 0) (.int .i64 0) (.string ⟨#[]⟩)
        have Z2 := (Z.other3' (show w.heap.size + 1 + 1 ≠ w.heap.size + 1 by omega) (.slice A3 n3 c3) (.int .i64 y.fuse) (.bool y.down)).three (.int .i64 0) (.int .i64 0) (.string ⟨#[]⟩)
        have R2 := (R.box3 V (.slice A3 n3 c3) (.int .i64 y.fuse) (.bool y.down)).box3 (Z.other3' (show w.heap.size + 1 + 1 ≠ w.heap.size + 1 by omega) (.slice A3 n3 c3) (.int .i64 y.fuse) (.bool y.down)) (.int .i64 0) (.int .i64 0) (.string ⟨#[]⟩)
        have b2 := below_three (below_three bl (show w.heap.size ≤ w.heap.size + 1 by omega) (.slice A3 n3 c3) (.int .i64 y.fuse) (.bool y.down)) (show w.heap.size ≤ w.heap.size + 1 + 1 by omega) (.int .i64 0) (.int .i64 0) (.string ⟨#[]⟩)
        have k0 := V2.at 0 rfl
        have k1 := V2.at 1 rfl
        have k2 := V2.at 2 rfl
        have r0 := Z2.at 0 rfl
        have r1 := Z2.at 1 rfl
        have r2 := Z2.at 2 rfl
        refine bodyPost_ret (v := .tuple #[.agg #[.slice A3 n3 c3, .int .i64 y.fuse, .bool y.down], .agg #[.int .i64 0, .int .i64 0, .string ⟨#[]⟩], .int .i64 er]) (by simp [results, Try.results18, go_sem, k0, k1, k2, r0, r1, r2]; try rfl) rfl ⟨⟨_, _, _, by rw [FN.out]; rfl, by rw [FN.out]; exact R2⟩, b2⟩
    · have hkk : ¬ (k : Int) < (n' : Int) := by omega
      have FZ : Hid (J.zeros d d.secs.length = (g, 0)) := Lib.hid (by
        have e : k = n' := by omega
        rw [HLN.out, ← e]
        show ((J.zeros d k).1, (J.zeros d k).2) = _
        rw [HG.out, HZ0.out])
      have FN := Lib.hid (J.format_p HOK.out FZ.out)
      obtain ⟨⟨y, x2, e2⟩, hz⟩ : ∃ z, J.putr g ⟨1, 1, note⟩ = z := ⟨_, rfl⟩
      have FY := Lib.hid (FN.out.trans hz)
      have HZ := Lib.hid hz
      clear hz
      have p0 := P.at 0 rfl
      have p1 := P.at 1 rfl
      have p2 := P.at 2 rfl
      have l0 := L.at 0 rfl
      have l1 := L.at 1 rfl
      have l2 := L.at 2 rfl
      go_wp2_with fail
      have ct := jput_any g A' n' c' ⟨1, 1, note⟩ wr R HIN.out hn2 hn (by omega)
      rw [HZ.out] at ct
      refine ct.mono ?_
      clear ct
      rintro e w7 ⟨⟨A3, n3, c3, rfl, R3⟩, hb⟩
      (try dsimp only at R3)
      simp only [rv]
      clear p0 p1 p2 l0 l1 l2
      replace P := P.belowH hb
      replace V := V.belowH hb
      replace Z := Z.belowH hb
      replace bl := bl.trans (hb.mono bl.size)
      clear hb
      have v0 := V.at 0 rfl
      have v1 := V.at 1 rfl
      have v2 := V.at 2 rfl
      have vc := V.cold
      have z0 := Z.at 0 rfl
      have z1 := Z.at 1 rfl
      have z2 := Z.at 2 rfl
      have zc := Z.cold
      go_wp2
      have V2 := (V.three (.slice A3 n3 c3) (.int .i64 y.fuse) (.bool y.down)).other3' (show w.heap.size + 1 ≠ w.heap.size + 1 + 1 by omega) (.int .i64 x2.seq) (.int .i64 x2.gen) (.string (strB x2.note))
      have Z2 := (Z.other3' (show w.heap.size + 1 + 1 ≠ w.heap.size + 1 by omega) (.slice A3 n3 c3) (.int .i64 y.fuse) (.bool y.down)).three (.int .i64 x2.seq) (.int .i64 x2.gen) (.string (strB x2.note))
      have R2 := (R3.box3 V (.slice A3 n3 c3) (.int .i64 y.fuse) (.bool y.down)).box3 (Z.other3' (show w.heap.size + 1 + 1 ≠ w.heap.size + 1 by omega) (.slice A3 n3 c3) (.int .i64 y.fuse) (.bool y.down)) (.int .i64 x2.seq) (.int .i64 x2.gen) (.string (strB x2.note))
      have b2 := below_three (below_three bl (show w.heap.size ≤ w.heap.size + 1 by omega) (.slice A3 n3 c3) (.int .i64 y.fuse) (.bool y.down)) (show w.heap.size ≤ w.heap.size + 1 + 1 by omega) (.int .i64 x2.seq) (.int .i64 x2.gen) (.string (strB x2.note))
      have k0 := V2.at 0 rfl
      have k1 := V2.at 1 rfl
      have k2 := V2.at 2 rfl
      have r0 := Z2.at 0 rfl
      have r1 := Z2.at 1 rfl
      have r2 := Z2.at 2 rfl
      refine bodyPost_ret (v := .tuple #[.agg #[.slice A3 n3 c3, .int .i64 y.fuse, .bool y.down], .agg #[.int .i64 x2.seq, .int .i64 x2.gen, .string (strB x2.note)], .int .i64 e2]) (by simp [results, Try.results18, go_sem, k0, k1, k2, r0, r1, r2]; try rfl) rfl ⟨⟨_, _, _, by rw [FY.out]; rfl, by rw [FY.out]; exact R2⟩, b2⟩
end Go.Proofs.Ytipccalbhlhljaa

