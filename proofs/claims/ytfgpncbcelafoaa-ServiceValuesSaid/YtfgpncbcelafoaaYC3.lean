/- Package service: what a value says. -/
import Derived.Test.YtfgpncbcelafoaaYC1
import Derived.Test.YtfgpncbcelafoaaYRef3
namespace Go.Proofs.Ytfgpncbcelafoaa
set_option linter.unusedVariables false
set_option linter.unusedSimpArgs false
open Go.RowKit
theorem ytt_at {l t r : List UInt8} {e : Nat} {er most : Int} (hq : Q.taketext l most = (e, t, r)) (he : (e : Int) = er) (A : Option Addr) (n c : Nat) (w : World) (h : Rd w w.heap.size 1 A n (U l)) (hc : n ≤ c ∧ c ≤ 9223372036854775807) :
    Calls Try.prog 26 #[.slice A n c, .int .i64 most] w (TTR t r er w) := by
  have := taketext_any A n c w.heap.size l most w h hc.1 hc.2
  rw [hq] at this
  subst he
  exact this.mono fun _ _ ⟨⟨A', c', h1, h2, h3, h4⟩, q, h5⟩ => ⟨⟨A', c', h1, by subst h5; exact h2, h3, h4⟩, by subst h5; exact kdrewY (Below.refl _ _) q⟩
theorem ytake_at {l r : List UInt8} {e N k : Nat} {x er : Int} (hq : Q.take l = (e, N, k)) (hr : Q.rest l = r) (hx : (N : Int) = x) (he : (e : Int) = er) (A : Option Addr) (n c : Nat) (w : World) (h : Rd w w.heap.size 1 A n (U l)) (hc : n ≤ c ∧ c ≤ 9223372036854775807) :
    Calls Try.prog 27 #[.slice A n c] w (TNR x r er w) := by
  have := take_any A n c w.heap.size l w h hc.1 hc.2
  rw [hq] at this
  subst he hr hx
  exact this.mono fun _ _ ⟨⟨A', c', h1, h2, h3, h4⟩, h5⟩ => ⟨⟨A', c', h1, by subst h5; exact h2, h3, h4⟩, by subst h5; exact Below.refl _ _⟩
/-- how far the texts are taken -/
def Tst (v nm pr : List UInt8) (k : Nat) (r : List UInt8) : Prop := (k = 0 ∧ nm = [] ∧ pr = [] ∧ r = v) ∨ (k = 1 ∧ pr = [] ∧ Q.taketext v 20 = (0, nm, r)) ∨ (k = 2 ∧ Got v nm pr r)
theorem tst0 {v nm pr r t r1 : List UInt8} {e : Nat} (h : Tst v nm pr 0 r) (hq : Q.taketext r 20 = (e, t, r1)) : (e = 0 → Tst v t pr 1 r1) ∧ (e ≠ 0 → Y.dec v = (Y.none, (e : Int))) := by
  rcases h with ⟨_, rfl, rfl, rfl⟩ | ⟨h, _⟩ | ⟨h, _⟩
  · exact ⟨fun he => Or.inr (Or.inl ⟨rfl, rfl, by rw [hq, he]⟩), fun he => by rw [Y.dec_e1 (by rw [hq]; exact he), hq]⟩
  · cases h
  · cases h
theorem tst1 {v nm pr r t r1 : List UInt8} {e : Nat} (h : Tst v nm pr 1 r) (hq : Q.taketext r 20 = (e, t, r1)) : (e = 0 → Tst v nm t 2 r1) ∧ (e ≠ 0 → Y.dec v = (Y.none, (e : Int))) := by
  rcases h with ⟨h, _⟩ | ⟨_, rfl, h2⟩ | ⟨h, _⟩
  · cases h
  · exact ⟨fun he => Or.inr (Or.inr ⟨rfl, r, h2, by rw [hq, he]⟩), fun he => by rw [Y.dec_e2 h2 (by rw [hq]; exact he), hq]⟩
  · cases h
theorem tst2 {v nm pr r : List UInt8} (h : Tst v nm pr 2 r) : Got v nm pr r := by
  rcases h with ⟨h, _⟩ | ⟨h, _⟩ | ⟨_, h⟩
  · cases h
  · cases h
  · exact h
/-- the frame in the texts' loop -/
def TexA (W : World) (ob tb : Nat) (v : List UInt8) (s14 s4 s5 : Value) (wx : World) : Prop := ∃ (nm pr r : List UInt8) (k : Nat) (A : Option Addr) (c : Nat), k ≤ 2 ∧ s14 = .int .i64 (k : Int) ∧ s4 = .slice A r.length c ∧ s5 = .int .i64 0 ∧ Hid (Tst v nm pr k r) ∧
  Box wx ob 23 #[.string ⟨#[]⟩, .string ⟨#[]⟩, .int .i64 0, .int .i64 0, .int .i64 0, .bool false] ∧ Box wx tb 48 #[.string (strB nm), .string (strB pr)] ∧ Rd wx wx.heap.size 1 A r.length (U r) ∧ Hid (r.length ≤ c ∧ c ≤ 9223372036854775807) ∧ Below W.heap.size W wx
/-- the frame in the numbers' loop -/
def NumA (W : World) (ob tb gb : Nat) (v nm pr : List UInt8) (s30 s4 s5 : Value) (wx : World) : Prop := ∃ (r : List UInt8) (k : Nat) (x0 x1 x2 x3 : Int) (A : Option Addr) (c : Nat), k ≤ 4 ∧ s30 = .int .i64 (k : Int) ∧ s4 = .slice A r.length c ∧ s5 = .int .i64 0 ∧ Hid (Stat v nm pr k x0 x1 x2 x3 r 0) ∧
  Box wx ob 23 #[.string ⟨#[]⟩, .string ⟨#[]⟩, .int .i64 0, .int .i64 0, .int .i64 0, .bool false] ∧ Box wx tb 48 #[.string (strB nm), .string (strB pr)] ∧ Box wx gb 51 #[.int .i64 x0, .int .i64 x1, .int .i64 x2, .int .i64 x3] ∧ Rd wx wx.heap.size 1 A r.length (U r) ∧ Hid (r.length ≤ c ∧ c ≤ 9223372036854775807) ∧ Below W.heap.size W wx
theorem num_err {v nm pr r r' : List UInt8} {k e N j : Nat} {x0 x1 x2 x3 : Int} (hk : k < 4) (h : Stat v nm pr k x0 x1 x2 x3 r 0) (hq : Q.take r = (e, N, j)) (hr : Q.rest r = r') (he : e ≠ 0) : Y.dec v = (Y.none, (e : Int)) := by
  rcases stat_step hk h hq hr with ⟨h1, _⟩ | ⟨_, h2⟩
  · omega
  · exact h2
set_option maxHeartbeats 8000000 in
set_option maxRecDepth 20000 in
theorem ydecode_any (v : List UInt8) (hv : v.length ≤ 140737488351232) (w : World) : Calls Try.prog 9 #[.string (strB v)] w (SvR (Y.dec v).1 (Y.dec v).2 w) := by
  have O := Box.new w #[.string ⟨#[]⟩, .string ⟨#[]⟩, .int .i64 0, .int .i64 0, .int .i64 0, .bool false] 23
  have b := (Below.refl w.heap.size w).alloc (Nat.le_refl _) (.cells #[.string ⟨#[]⟩, .string ⟨#[]⟩, .int .i64 0, .int .i64 0, .int .i64 0, .bool false] 23)
  go_enter Try.func9, Try.ntmps9
  go_upto_region 1 with fail
  have hob := O.lt
  generalize w.alloc (.cells #[.string ⟨#[]⟩, .string ⟨#[]⟩, .int .i64 0, .int .i64 0, .int .i64 0, .bool false] 23) = w1 at *
  have hby := run_bytes w1 (strB v)
  have hcg := strC_ge w1 (strB v)
  have hcl := strC_le w1 (strB v) (by rw [strB_size]; unfold maxLen; omega)
  unfold maxLen at hcl
  have R : Rd (w1.alloc (strO w1 (strB v))).drew (w1.alloc (strO w1 (strB v))).drew.heap.size 1 (some ⟨w1.heap.size, 0, none⟩) v.length (U v) := (Rd.bytes w1 v).more (show w1.heap.size + 1 ≤ (w1.drew.alloc (strO w1 (strB v))).heap.size by simp)
  rw [strB_size] at hby hcg
  generalize strC w1 (strB v) = cv at *
  replace O := (O.alloc (strO w1 (strB v))).drew
  replace b := (b.alloc b.size (strO w1 (strB v))).drew
  go_upto_region 3 with fail
  clear hby
  have hob := O.lt
  generalize (w1.alloc (strO w1 (strB v))).drew = w2 at *
  generalize w1.heap.size = vb at *
  have HC : Hid (v.length ≤ cv ∧ cv ≤ 9223372036854775807) := Lib.hid ⟨hcg, hcl⟩
  clear hcg hcl
  have T := Box.new w2 #[.string ⟨#[]⟩, .string ⟨#[]⟩] 48
  replace R := R.belowH ((Below.refl w2.heap.size w2).alloc (Nat.le_refl _) (.cells #[.string ⟨#[]⟩, .string ⟨#[]⟩] 48))
  replace O := O.alloc (.cells #[.string ⟨#[]⟩, .string ⟨#[]⟩] 48)
  replace b := b.alloc b.size (.cells #[.string ⟨#[]⟩, .string ⟨#[]⟩] 48)
  go_wp2
  generalize w2.alloc (.cells #[.string ⟨#[]⟩, .string ⟨#[]⟩] 48) = w3 at *
  generalize w2.heap.size = tb at *
  go_loopw [14, 4, 5] (TexA w w.heap.size tb v) (fun i _ _ _ => 2 - (intOf i).toNat)
  case atStart => exact ⟨[], [], v, 0, _, _, by omega, rfl, rfl, rfl, Lib.hid (Or.inl ⟨rfl, rfl, rfl, rfl⟩), O, T, R, HC, b⟩
  case round =>
    clear O T R HC b
    obtain ⟨nm, pr, r, k, A, c, hk, rfl, rfl, rfl, HST, O, T, R, HC, b⟩ := hrel
    have hk0 : (0 : Int) ≤ (k : Int) := by omega
    by_cases hk2 : k < 2
    · have g1 : decide ((k : Int) < 2) = true := decide_eq_true (by omega)
      have g1' : decide (k < 2) = true := decide_eq_true hk2
      rcases hT : Q.taketext r 20 with ⟨e1, t, r1⟩
      obtain ⟨z1, hz1⟩ : ∃ z : Int, (e1 : Int) = z := ⟨_, rfl⟩
      have HA := Lib.hid (And.intro hT hz1)
      clear hT hz1
      go_wp2_with fail
      refine (ytt_at HA.out.1 HA.out.2 _ _ _ _ R HC.out).mono ?_
      rintro _ wk ⟨⟨A6, c6, rfl, R6, hc6⟩, hb⟩
      have HC6 := Lib.hid hc6
      replace O := O.belowH hb
      replace T := T.belowH hb
      replace b := b.trans (hb.mono b.size)
      clear hb R HC hc6
      obtain ⟨tu, tk⟩ : ∃ u, wk.cell? ⟨tb, k, none⟩ = some (.string u) := by
        have hkk : k = 0 ∨ k = 1 := by omega
        rcases hkk with rfl | rfl
        · exact ⟨_, T.at 0 (v := .string (strB nm)) rfl⟩
        · exact ⟨_, T.at 1 (v := .string (strB pr)) rfl⟩
      have tc := T.cold
      have tl := T.lt
      go_upto_region 8 with fail
      have T2 := T.set k (.string (strB t))
      have O2 := O.other (b' := tb) (o := k) (by omega) (.string (strB t))
      have b2 := below_set (o := k) b (show w.heap.size ≤ tb by omega) (.string (strB t))
      have R2 : Rd (wk.setCell ⟨tb, k, none⟩ (.string (strB t))) (wk.setCell ⟨tb, k, none⟩ (.string (strB t))).heap.size 1 A6 r1.length (U r1) := rd_box T rfl R6 _
      clear O T b R6 tk tc tl
      generalize wk.setCell ⟨tb, k, none⟩ (.string (strB t)) = wy at *
      have hkk : k = 0 ∨ k = 1 := by omega
      by_cases hz : z1 = 0
      · subst hz
        have hz0 : e1 = 0 := by have := HA.out.2; omega
        rcases hkk with rfl | rfl
        · have N : Hid (Tst v t pr 1 r1) := Lib.hid ((tst0 HST.out HA.out.1).1 hz0)
          clear HA HST hz0
          go_wp2
          go_roundw
          case rel => exact ⟨t, pr, r1, 1, A6, c6, by omega, by go_num, rfl, rfl, N, O2, T2, R2, HC6, b2⟩
          case measure => simp [intOf]
        · have N : Hid (Tst v nm t 2 r1) := Lib.hid ((tst1 HST.out HA.out.1).1 hz0)
          clear HA HST hz0
          go_wp2
          go_roundw
          case rel => exact ⟨nm, t, r1, 2, A6, c6, by omega, by go_num, rfl, rfl, N, O2, T2, R2, HC6, b2⟩
          case measure => simp [intOf]
      · have u1 : (z1 != 0) = true := bne_iff_ne.2 hz
        have u2 : (z1 == 0) = false := beq_eq_false_iff_ne.2 hz
        have E : Hid (Y.dec v = (Y.none, z1)) := Lib.hid (by
          have h1 : e1 ≠ 0 := fun h => hz (by rw [← HA.out.2, h]; rfl)
          rw [← HA.out.2]
          rcases hkk with rfl | rfl
          · exact (tst0 HST.out HA.out.1).2 h1
          · exact (tst1 HST.out HA.out.1).2 h1)
        have O9 := O2
        have b9 := b2
        clear hz HA HST hkk T2 R2 HC6 O2 b2
        have o0 := O9.at 0 (v := .string ⟨#[]⟩) rfl
        have o1 := O9.at 1 (v := .string ⟨#[]⟩) rfl
        have o2 := O9.at 2 (v := .int .i64 0) rfl
        have o3 := O9.at 3 (v := .int .i64 0) rfl
        have o4 := O9.at 4 (v := .int .i64 0) rfl
        have o5 := O9.at 5 (v := .bool false) rfl
        have oc := O9.cold
        go_wp2
        have Q0 := (((((O9.set 0 (.string ⟨#[]⟩)).set 1 (.string ⟨#[]⟩)).set 2 (.int .i64 0)).set 3 (.int .i64 0)).set 4 (.int .i64 0)).set 5 (.bool false)
        have q0 := Q0.at 0 (v := .string ⟨#[]⟩) rfl
        have q1 := Q0.at 1 (v := .string ⟨#[]⟩) rfl
        have q2 := Q0.at 2 (v := .int .i64 0) rfl
        have q3 := Q0.at 3 (v := .int .i64 0) rfl
        have q4 := Q0.at 4 (v := .int .i64 0) rfl
        have q5 := Q0.at 5 (v := .bool false) rfl
        refine bodyPost_ret (v := .tuple #[.agg #[.string ⟨#[]⟩, .string ⟨#[]⟩, .int .i64 0, .int .i64 0, .int .i64 0, .bool false], .int .i64 z1]) (by simp [results, Try.results9, go_sem, q0, q1, q2, q3, q4, q5]; try rfl) rfl ⟨by rw [E.out]; rfl, ?_⟩
        repeat (first | (with_reducible exact b9) | (with_reducible refine below_set ?_ (by omega) _))
    · have ek : k = 2 := by omega
      have g1 : decide ((k : Int) < 2) = false := decide_eq_false (by omega)
      have g1' : decide (k < 2) = false := decide_eq_false (by omega)
      have GOT : Hid (Stat v nm pr 0 0 0 0 0 r 0) := Lib.hid (stat_start (tst2 (by rw [← ek]; exact HST.out)))
      generalize hkc : k = kc at *
      clear hk hk0 hk2 HST ek hkc
      go_upto_region 11 with fail
      have htl := T.lt
      have G := Box.new wr #[.int .i64 0, .int .i64 0, .int .i64 0, .int .i64 0] 51
      replace R := R.belowH ((Below.refl wr.heap.size wr).alloc (Nat.le_refl _) (.cells #[.int .i64 0, .int .i64 0, .int .i64 0, .int .i64 0] 51))
      replace O := O.alloc (.cells #[.int .i64 0, .int .i64 0, .int .i64 0, .int .i64 0] 51)
      replace T := T.alloc (.cells #[.int .i64 0, .int .i64 0, .int .i64 0, .int .i64 0] 51)
      replace b := b.alloc b.size (.cells #[.int .i64 0, .int .i64 0, .int .i64 0, .int .i64 0] 51)
      go_wp2
      generalize wr.alloc (.cells #[.int .i64 0, .int .i64 0, .int .i64 0, .int .i64 0] 51) = w4 at *
      generalize wr.heap.size = gb at *
      go_loopw [30, 4, 5] (NumA w w.heap.size tb gb v nm pr) (fun i _ _ _ => 4 - (intOf i).toNat)
      case atStart => exact ⟨r, 0, 0, 0, 0, 0, A, c, by omega, rfl, rfl, rfl, GOT, O, T, G, R, HC, b⟩
      case round =>
        clear O T G R HC b GOT
        obtain ⟨r', k, x0, x1, x2, x3, A', c', hk, rfl, rfl, rfl, HST, O, T, G, R, HC, b⟩ := hrel
        have hk0 : (0 : Int) ≤ (k : Int) := by omega
        by_cases hk4 : k < 4
        · have g1 : decide ((k : Int) < 4) = true := decide_eq_true (by omega)
          have g1' : decide (k < 4) = true := decide_eq_true (by omega)
          rcases hT : Q.take r' with ⟨e5, N5, j5⟩
          obtain ⟨z5, hz5⟩ : ∃ z : Int, (e5 : Int) = z := ⟨_, rfl⟩
          obtain ⟨x5, hx5⟩ : ∃ z : Int, (N5 : Int) = z := ⟨_, rfl⟩
          obtain ⟨r5, hr5⟩ : ∃ l, Q.rest r' = l := ⟨_, rfl⟩
          have NST := Lib.hid (stat_step hk4 HST.out hT hr5)
          rw [hz5, hx5] at NST
          have HA := Lib.hid (And.intro hT (And.intro hr5 (And.intro hx5 hz5)))
          clear hT hz5 hx5 hr5
          go_wp2_with fail
          refine (ytake_at HA.out.1 HA.out.2.1 HA.out.2.2.1 HA.out.2.2.2 _ _ _ _ R HC.out).mono ?_
          rintro _ wk ⟨⟨A6, c6, rfl, R6, hc6⟩, hb⟩
          have HC6 := Lib.hid hc6
          replace O := O.belowH hb
          replace T := T.belowH hb
          replace G := G.belowH hb
          replace b := b.trans (hb.mono b.size)
          clear hb R HC hc6
          obtain ⟨yu, yk⟩ : ∃ u, wk.cell? ⟨gb, k, none⟩ = some (.int .i64 u) := by
            have hkk : k = 0 ∨ k = 1 ∨ k = 2 ∨ k = 3 := by omega
            rcases hkk with rfl | rfl | rfl | rfl
            · exact ⟨_, G.at 0 (v := .int .i64 x0) rfl⟩
            · exact ⟨_, G.at 1 (v := .int .i64 x1) rfl⟩
            · exact ⟨_, G.at 2 (v := .int .i64 x2) rfl⟩
            · exact ⟨_, G.at 3 (v := .int .i64 x3) rfl⟩
          have yc := G.cold
          have yl := G.lt
          go_upto_region 16 with fail
          have G2 := G.set k (.int .i64 x5)
          have O2 := O.other (b' := gb) (o := k) (by omega) (.int .i64 x5)
          have T2 := T.other (b' := gb) (o := k) (by omega) (.int .i64 x5)
          have b2 := below_set (o := k) b (show w.heap.size ≤ gb by omega) (.int .i64 x5)
          have R2 : Rd (wk.setCell ⟨gb, k, none⟩ (.int .i64 x5)) (wk.setCell ⟨gb, k, none⟩ (.int .i64 x5)).heap.size 1 A6 r5.length (U r5) := rd_box G rfl R6 _
          clear O T G b R6 yk yc yl
          generalize wk.setCell ⟨gb, k, none⟩ (.int .i64 x5) = wy at *
          by_cases hz : z5 = 0
          · subst hz
            clear HA HST
            have hkk : k = 0 ∨ k = 1 ∨ k = 2 ∨ k = 3 := by omega
            rcases hkk with rfl | rfl | rfl | rfl
            all_goals go_wp2
            all_goals go_roundw
            case rel => exact ⟨r5, 1, x5, x1, x2, x3, A6, c6, by omega, by go_num, rfl, rfl, NST, O2, T2, G2, R2, HC6, b2⟩
            case rel => exact ⟨r5, 2, x0, x5, x2, x3, A6, c6, by omega, by go_num, rfl, rfl, NST, O2, T2, G2, R2, HC6, b2⟩
            case rel => exact ⟨r5, 3, x0, x1, x5, x3, A6, c6, by omega, by go_num, rfl, rfl, NST, O2, T2, G2, R2, HC6, b2⟩
            case rel => exact ⟨r5, 4, x0, x1, x2, x5, A6, c6, by omega, by go_num, rfl, rfl, NST, O2, T2, G2, R2, HC6, b2⟩
            all_goals (simp [intOf])
          · have u1 : (z5 != 0) = true := bne_iff_ne.2 hz
            have u2 : (z5 == 0) = false := beq_eq_false_iff_ne.2 hz
            have E : Hid (Y.dec v = (Y.none, z5)) := Lib.hid (by
              have h1 : e5 ≠ 0 := fun h => hz (by rw [← HA.out.2.2.2, h]; rfl)
              rw [← HA.out.2.2.2]
              exact num_err hk4 HST.out HA.out.1 HA.out.2.1 h1)
            have O9 := O2
            have b9 := b2
            clear hz HA HST NST T2 G2 R2 HC6 O2 b2
            have o0 := O9.at 0 (v := .string ⟨#[]⟩) rfl
            have o1 := O9.at 1 (v := .string ⟨#[]⟩) rfl
            have o2 := O9.at 2 (v := .int .i64 0) rfl
            have o3 := O9.at 3 (v := .int .i64 0) rfl
            have o4 := O9.at 4 (v := .int .i64 0) rfl
            have o5 := O9.at 5 (v := .bool false) rfl
            have oc := O9.cold
            go_wp2
            have Q0 := (((((O9.set 0 (.string ⟨#[]⟩)).set 1 (.string ⟨#[]⟩)).set 2 (.int .i64 0)).set 3 (.int .i64 0)).set 4 (.int .i64 0)).set 5 (.bool false)
            have q0 := Q0.at 0 (v := .string ⟨#[]⟩) rfl
            have q1 := Q0.at 1 (v := .string ⟨#[]⟩) rfl
            have q2 := Q0.at 2 (v := .int .i64 0) rfl
            have q3 := Q0.at 3 (v := .int .i64 0) rfl
            have q4 := Q0.at 4 (v := .int .i64 0) rfl
            have q5 := Q0.at 5 (v := .bool false) rfl
            refine bodyPost_ret (v := .tuple #[.agg #[.string ⟨#[]⟩, .string ⟨#[]⟩, .int .i64 0, .int .i64 0, .int .i64 0, .bool false], .int .i64 z5]) (by simp [results, Try.results9, go_sem, q0, q1, q2, q3, q4, q5]; try rfl) rfl ⟨by rw [E.out]; rfl, ?_⟩
            repeat (first | (with_reducible exact b9) | (with_reducible refine below_set ?_ (by omega) _))
        · obtain rfl : k = 4 := by omega
          have g1 : decide ((4 : Int) < 4) = false := by decide
          obtain ⟨n0, n1, n2, n3, h0, h1, h2, h3, hd, hn1, hn2⟩ := stat_end HST.out
          have HD := Lib.hid hd
          have HN := Lib.hid (And.intro h0 (And.intro h1 (And.intro h2 h3)))
          have HL := Lib.hid (And.intro hn1 hn2)
          clear hd h0 h1 h2 h3 HST hn1 hn2 hk hk0 hk4
          obtain ⟨b3, hb3⟩ : ∃ z : Bool, (x3 == 1) = z := ⟨_, rfl⟩
          have y0 := G.at 0 (v := .int .i64 x0) rfl
          have y1 := G.at 1 (v := .int .i64 x1) rfl
          have y2 := G.at 2 (v := .int .i64 x2) rfl
          have y3 := G.at 3 (v := .int .i64 x3) rfl
          have t0 := T.at 0 (v := .string (strB nm)) rfl
          have t1 := T.at 1 (v := .string (strB pr)) rfl
          go_upto_region 21 with fail
          have S9 := Box.new wr #[.string (strB nm), .string (strB pr), .int .i64 x0, .int .i64 x1, .int .i64 x2, .bool b3] 23
          have O9 := O.alloc (.cells #[.string (strB nm), .string (strB pr), .int .i64 x0, .int .i64 x1, .int .i64 x2, .bool b3] 23)
          have b9 := b.alloc b.size (.cells #[.string (strB nm), .string (strB pr), .int .i64 x0, .int .i64 x1, .int .i64 x2, .bool b3] 23)
          clear O T G R HC b y0 y1 y2 y3 t0 t1
          generalize wr.alloc (.cells #[.string (strB nm), .string (strB pr), .int .i64 x0, .int .i64 x1, .int .i64 x2, .bool b3] 23) = w9 at *
          generalize wr.heap.size = sb at *
          have HBB : Hid (b3 = decide (n3 = 1)) := Lib.hid (by rw [← hb3, ← HN.out.2.2.2]; rw [Bool.eq_iff_iff, beq_iff_eq, decide_eq_true_iff]; omega)
          have HX3 : Hid ((n3 : Int) = x3) := Lib.hid HN.out.2.2.2
          clear hb3
          by_cases hr : r'.length = 0
          rotate_left
          · have f1 : decide ((0 : Int) < (r'.length : Int)) = true := decide_eq_true (by omega)
            have f1' : decide (0 < r'.length) = true := decide_eq_true (by omega)
            have E : Hid (Y.dec v = (Y.none, 3)) := Lib.hid (by rw [HD.out]; exact made_no (fun h => hr (by rw [h.1]; rfl)))
            clear hr S9
            have o0 := O9.at 0 (v := .string ⟨#[]⟩) rfl
            have o1 := O9.at 1 (v := .string ⟨#[]⟩) rfl
            have o2 := O9.at 2 (v := .int .i64 0) rfl
            have o3 := O9.at 3 (v := .int .i64 0) rfl
            have o4 := O9.at 4 (v := .int .i64 0) rfl
            have o5 := O9.at 5 (v := .bool false) rfl
            have oc := O9.cold
            go_wp2
            have Q0 := (((((O9.set 0 (.string ⟨#[]⟩)).set 1 (.string ⟨#[]⟩)).set 2 (.int .i64 0)).set 3 (.int .i64 0)).set 4 (.int .i64 0)).set 5 (.bool false)
            have q0 := Q0.at 0 (v := .string ⟨#[]⟩) rfl
            have q1 := Q0.at 1 (v := .string ⟨#[]⟩) rfl
            have q2 := Q0.at 2 (v := .int .i64 0) rfl
            have q3 := Q0.at 3 (v := .int .i64 0) rfl
            have q4 := Q0.at 4 (v := .int .i64 0) rfl
            have q5 := Q0.at 5 (v := .bool false) rfl
            refine bodyPost_ret (v := .tuple #[.agg #[.string ⟨#[]⟩, .string ⟨#[]⟩, .int .i64 0, .int .i64 0, .int .i64 0, .bool false], .int .i64 3]) (by simp [results, Try.results9, go_sem, q0, q1, q2, q3, q4, q5]; try rfl) rfl ⟨by rw [E.out]; rfl, ?_⟩
            repeat (first | (with_reducible exact b9) | (with_reducible refine below_set ?_ (by omega) _))
          have f1 : decide ((0 : Int) < (r'.length : Int)) = false := decide_eq_false (by omega)
          have f1' : decide (0 < r'.length) = false := decide_eq_false (by omega)
          have HR : Hid (r' = []) := Lib.hid (List.eq_nil_of_length_eq_zero hr)
          clear hr
          by_cases h3 : 1 < x3
          · have f2 : decide ((1 : Int) < x3) = true := decide_eq_true h3
            have E : Hid (Y.dec v = (Y.none, 3)) := Lib.hid (by rw [HD.out]; exact made_no (fun h => by have := h.2.1; have := HX3.out; omega))
            clear h3 S9
            have o0 := O9.at 0 (v := .string ⟨#[]⟩) rfl
            have o1 := O9.at 1 (v := .string ⟨#[]⟩) rfl
            have o2 := O9.at 2 (v := .int .i64 0) rfl
            have o3 := O9.at 3 (v := .int .i64 0) rfl
            have o4 := O9.at 4 (v := .int .i64 0) rfl
            have o5 := O9.at 5 (v := .bool false) rfl
            have oc := O9.cold
            go_wp2
            have Q0 := (((((O9.set 0 (.string ⟨#[]⟩)).set 1 (.string ⟨#[]⟩)).set 2 (.int .i64 0)).set 3 (.int .i64 0)).set 4 (.int .i64 0)).set 5 (.bool false)
            have q0 := Q0.at 0 (v := .string ⟨#[]⟩) rfl
            have q1 := Q0.at 1 (v := .string ⟨#[]⟩) rfl
            have q2 := Q0.at 2 (v := .int .i64 0) rfl
            have q3 := Q0.at 3 (v := .int .i64 0) rfl
            have q4 := Q0.at 4 (v := .int .i64 0) rfl
            have q5 := Q0.at 5 (v := .bool false) rfl
            refine bodyPost_ret (v := .tuple #[.agg #[.string ⟨#[]⟩, .string ⟨#[]⟩, .int .i64 0, .int .i64 0, .int .i64 0, .bool false], .int .i64 3]) (by simp [results, Try.results9, go_sem, q0, q1, q2, q3, q4, q5]; try rfl) rfl ⟨by rw [E.out]; rfl, ?_⟩
            repeat (first | (with_reducible exact b9) | (with_reducible refine below_set ?_ (by omega) _))
          have f2 : decide ((1 : Int) < x3) = false := decide_eq_false h3
          have H31 : Hid (n3 ≤ 1) := Lib.hid (by have := HX3.out; omega)
          have HS : Hid ((⟨nm, pr, (n0 : Int), (n1 : Int), (n2 : Int), decide (n3 = 1)⟩ : Svc) = ⟨nm, pr, x0, x1, x2, b3⟩) := Lib.hid (by rw [HN.out.1, HN.out.2.1, HN.out.2.2.1, ← HBB.out])
          clear h3
          have s0 := S9.at 0 (v := .string (strB nm)) rfl
          have s1 := S9.at 1 (v := .string (strB pr)) rfl
          have s2 := S9.at 2 (v := .int .i64 x0) rfl
          have s3 := S9.at 3 (v := .int .i64 x1) rfl
          have s4 := S9.at 4 (v := .int .i64 x2) rfl
          have s5 := S9.at 5 (v := .bool b3) rfl
          go_wp2_with fail
          refine (yright_any ⟨nm, pr, x0, x1, x2, b3⟩ ⟨by show nm.length ≤ _; have := HL.out.1; omega, by show pr.length ≤ _; have := HL.out.2; omega⟩ _).mono ?_
          rintro _ wz ⟨rfl, hb⟩
          clear s0 s1 s2 s3 s4 s5
          replace S9 := S9.belowH hb
          replace O9 := O9.belowH hb
          replace b9 := b9.trans (hb.mono b9.size)
          clear hb
          by_cases hy : Y.right ⟨nm, pr, x0, x1, x2, b3⟩
          rotate_left
          · have E : Hid (Y.dec v = (Y.none, 3)) := Lib.hid (by rw [HD.out]; exact made_no (fun h => hy (by rw [← HS.out]; exact h.2.2)))
            rw [decide_eq_false hy]
            clear hy S9
            have o0 := O9.at 0 (v := .string ⟨#[]⟩) rfl
            have o1 := O9.at 1 (v := .string ⟨#[]⟩) rfl
            have o2 := O9.at 2 (v := .int .i64 0) rfl
            have o3 := O9.at 3 (v := .int .i64 0) rfl
            have o4 := O9.at 4 (v := .int .i64 0) rfl
            have o5 := O9.at 5 (v := .bool false) rfl
            have oc := O9.cold
            go_wp2
            have Q0 := (((((O9.set 0 (.string ⟨#[]⟩)).set 1 (.string ⟨#[]⟩)).set 2 (.int .i64 0)).set 3 (.int .i64 0)).set 4 (.int .i64 0)).set 5 (.bool false)
            have q0 := Q0.at 0 (v := .string ⟨#[]⟩) rfl
            have q1 := Q0.at 1 (v := .string ⟨#[]⟩) rfl
            have q2 := Q0.at 2 (v := .int .i64 0) rfl
            have q3 := Q0.at 3 (v := .int .i64 0) rfl
            have q4 := Q0.at 4 (v := .int .i64 0) rfl
            have q5 := Q0.at 5 (v := .bool false) rfl
            refine bodyPost_ret (v := .tuple #[.agg #[.string ⟨#[]⟩, .string ⟨#[]⟩, .int .i64 0, .int .i64 0, .int .i64 0, .bool false], .int .i64 3]) (by simp [results, Try.results9, go_sem, q0, q1, q2, q3, q4, q5]; try rfl) rfl ⟨by rw [E.out]; rfl, ?_⟩
            repeat (first | (with_reducible exact b9) | (with_reducible refine below_set ?_ (by omega) _))
          have E : Hid (Y.dec v = (⟨nm, pr, x0, x1, x2, b3⟩, 0)) := Lib.hid (by rw [HD.out, made_yes HR.out H31.out (by rw [HS.out]; exact hy), HS.out])
          rw [decide_eq_true hy]
          clear hy
          have s0 := S9.at 0 (v := .string (strB nm)) rfl
          have s1 := S9.at 1 (v := .string (strB pr)) rfl
          have s2 := S9.at 2 (v := .int .i64 x0) rfl
          have s3 := S9.at 3 (v := .int .i64 x1) rfl
          have s4 := S9.at 4 (v := .int .i64 x2) rfl
          have s5 := S9.at 5 (v := .bool b3) rfl
          have o0 := O9.at 0 (v := .string ⟨#[]⟩) rfl
          have o1 := O9.at 1 (v := .string ⟨#[]⟩) rfl
          have o2 := O9.at 2 (v := .int .i64 0) rfl
          have o3 := O9.at 3 (v := .int .i64 0) rfl
          have o4 := O9.at 4 (v := .int .i64 0) rfl
          have o5 := O9.at 5 (v := .bool false) rfl
          have oc := O9.cold
          go_wp2
          have Q0 := (((((O9.set 0 (.string (strB nm))).set 1 (.string (strB pr))).set 2 (.int .i64 x0)).set 3 (.int .i64 x1)).set 4 (.int .i64 x2)).set 5 (.bool b3)
          have q0 := Q0.at 0 (v := .string (strB nm)) rfl
          have q1 := Q0.at 1 (v := .string (strB pr)) rfl
          have q2 := Q0.at 2 (v := .int .i64 x0) rfl
          have q3 := Q0.at 3 (v := .int .i64 x1) rfl
          have q4 := Q0.at 4 (v := .int .i64 x2) rfl
          have q5 := Q0.at 5 (v := .bool b3) rfl
          refine bodyPost_ret (v := .tuple #[.agg #[.string (strB nm), .string (strB pr), .int .i64 x0, .int .i64 x1, .int .i64 x2, .bool b3], .int .i64 0]) (by simp [results, Try.results9, go_sem, q0, q1, q2, q3, q4, q5]; try rfl) rfl ⟨by rw [E.out]; rfl, ?_⟩
          repeat (first | (with_reducible exact b9) | (with_reducible refine below_set ?_ (by omega) _))
end Go.Proofs.Ytfgpncbcelafoaa
