/- YC1 YC3 YC4 YC5 YC6 YC7 (merged). -/
import Derived.RangeFuncBox
import Derived.RangeFuncNested
import Derived.RangeFuncWrites
import Derived.RangeFuncLeaves
import Derived.Shelf.Abstract
import Derived.OwnWalkIn
import Derived.TacticsInMore
import Derived.LoopNIn
import Derived.LoopIn
import Derived.Maps.AppendAt
import Derived.Test.YtmbfldcmiabccaaGreatDoorJF02
import Derived.Test.YtmbfldcmiabccaaGreatDoorJF07
import Derived.Test.YtmbfldcmiabccaaGreatDoorJF08
namespace Go.Proofs.YtmbfldcmiabccaaGreatDoor
set_option linter.unusedVariables false
set_option linter.unusedSimpArgs false
open Go.RowKit
namespace Y
/-- may a byte stand in a word, wherever -/
def pl (c : Nat) : Prop := (97 ≤ c ∧ c ≤ 122) ∨ (48 ≤ c ∧ c ≤ 57) ∨ c = 45
instance (c : Nat) : Decidable (pl c) := by unfold pl; infer_instance
theorem chr_pl {c i n : Nat} : chr c i n ↔ pl c ∧ (c = 45 → 0 < i ∧ i + 1 < n) := by
  unfold chr pl
  constructor
  · rintro (h | h | ⟨h, h2, h3⟩)
    · exact ⟨Or.inl h, fun e => by omega⟩
    · exact ⟨Or.inr (Or.inl h), fun e => by omega⟩
    · exact ⟨Or.inr (Or.inr h), fun _ => ⟨h2, h3⟩⟩
  · rintro ⟨h | h | h, h2⟩
    · exact Or.inl h
    · exact Or.inr (Or.inl h)
    · exact Or.inr (Or.inr ⟨h, h2 h⟩)
/-- are bytes as far as k of them such -/
def pls (s : List UInt8) (k : Nat) : Prop := ∀ i, i < k → pl (s.getD i 0).toNat
theorem pls_more {s : List UInt8} {k : Nat} {x : UInt8} (hx : s[k]? = some x) (h : pls s k) (hp : pl x.toNat) : pls s (k + 1) := fun i hi => by
  by_cases e : i = k
  · subst e
    rw [List.getD_eq_getElem?_getD, hx]
    exact hp
  · exact h i (by omega)
theorem no_pl {s : List UInt8} {k : Nat} {x : UInt8} (hx : s[k]? = some x) (hp : ¬ pl x.toNat) : ¬ word s := fun h => hp (by
  have hk := (List.getElem?_eq_some_iff.1 hx).1
  have := (chr_pl.1 (h.2.2 k hk)).1
  rwa [List.getD_eq_getElem?_getD, hx] at this)
theorem no_ends {s : List UInt8} {k : Nat} {x : UInt8} (hx : s[k]? = some x) (hp : x.toNat = 45) (hk : k = 0 ∨ k + 1 = s.length) : ¬ word s := fun h => by
  have hl := (List.getElem?_eq_some_iff.1 hx).1
  have h2 := h.2.2 k hl
  rw [List.getD_eq_getElem?_getD, hx] at h2
  have := (chr_pl.1 h2).2 hp
  omega
theorem is_word {s : List UInt8} {x z : UInt8} (h1 : 1 ≤ s.length) (h2 : s.length ≤ 20) (hx : s[0]? = some x) (hz : s[s.length - 1]? = some z) (ex : x.toNat ≠ 45) (ez : z.toNat ≠ 45) (h : pls s s.length) : word s :=
  ⟨h1, h2, fun i hi => chr_pl.2 ⟨h i hi, fun e => by
    constructor
    · rcases Nat.eq_zero_or_pos i with rfl | h0
      · rw [List.getD_eq_getElem?_getD, hx] at e
        exact absurd e ex
      · exact h0
    · by_cases e2 : i + 1 = s.length
      · obtain rfl : i = s.length - 1 := by omega
        rw [List.getD_eq_getElem?_getD, hz] at e
        exact absurd e ez
      · omega⟩⟩
end Y
set_option maxHeartbeats 1000000 in
theorem yplain_at {x : UInt8} {c : Int} {z : Bool} (hc : (x.toNat : Int) = c) (e : decide (Y.pl x.toNat) = z) (w : World) : Calls Tryz.prog 110 #[.int .u8 c] w (BoolY z w) := by
  have HC := Lib.hid hc
  have hx := x.toNat_lt
  have c0 : 0 ≤ c := by omega
  have c1 : c < 256 := by omega
  clear hc hx
  have HE := Lib.hid e
  clear e
  by_cases a : 97 ≤ c
  · have f1 : decide (97 ≤ c) = true := decide_eq_true a
    by_cases b : c ≤ 122
    · have f2 : decide (c ≤ 122) = true := decide_eq_true b
      have Z : Hid (z = true) := Lib.hid (by rw [← HE.out]; exact decide_eq_true (by unfold Y.pl; have h7 := HC.out; omega))
      go_enter Tryz.func110, Tryz.ntmps110
      go_wp2
      go_ret
      exact ⟨ret_bool Z.out.symm, rfl⟩
    · have f2 : decide (c ≤ 122) = false := decide_eq_false b
      have f3 : decide (48 ≤ c) = true := decide_eq_true (by omega)
      have f4 : decide (c ≤ 57) = false := decide_eq_false (by omega)
      have f5 : (c == 45) = false := by rw [beq_eq_false_iff_ne]; omega
      have Z : Hid (z = false) := Lib.hid (by rw [← HE.out]; exact decide_eq_false (by unfold Y.pl; have h7 := HC.out; omega))
      go_enter Tryz.func110, Tryz.ntmps110
      go_wp2
      go_ret
      exact ⟨ret_bool Z.out.symm, rfl⟩
  · have f1 : decide (97 ≤ c) = false := decide_eq_false a
    by_cases b : 48 ≤ c
    · have f3 : decide (48 ≤ c) = true := decide_eq_true b
      by_cases d : c ≤ 57
      · have f4 : decide (c ≤ 57) = true := decide_eq_true d
        have Z : Hid (z = true) := Lib.hid (by rw [← HE.out]; exact decide_eq_true (by unfold Y.pl; have h7 := HC.out; omega))
        go_enter Tryz.func110, Tryz.ntmps110
        go_wp2
        go_ret
        exact ⟨ret_bool Z.out.symm, rfl⟩
      · have f4 : decide (c ≤ 57) = false := decide_eq_false d
        have f5 : (c == 45) = false := by rw [beq_eq_false_iff_ne]; omega
        have Z : Hid (z = false) := Lib.hid (by rw [← HE.out]; exact decide_eq_false (by unfold Y.pl; have h7 := HC.out; omega))
        go_enter Tryz.func110, Tryz.ntmps110
        go_wp2
        go_ret
        exact ⟨ret_bool Z.out.symm, rfl⟩
    · have f3 : decide (48 ≤ c) = false := decide_eq_false b
      by_cases d : c = 45
      · have f5 : (c == 45) = true := by rw [beq_iff_eq]; exact d
        have HD := Lib.hid d
        clear d
        have Z : Hid (z = true) := Lib.hid (by rw [← HE.out]; exact decide_eq_true (by unfold Y.pl; have h7 := HC.out; have := HD.out; omega))
        go_enter Tryz.func110, Tryz.ntmps110
        go_wp2
        go_ret
        exact ⟨ret_bool Z.out.symm, rfl⟩
      · have f5 : (c == 45) = false := by rw [beq_eq_false_iff_ne]; exact d
        have Z : Hid (z = false) := Lib.hid (by rw [← HE.out]; exact decide_eq_false (by unfold Y.pl; have h7 := HC.out; omega))
        go_enter Tryz.func110, Tryz.ntmps110
        go_wp2
        go_ret
        exact ⟨ret_bool Z.out.symm, rfl⟩
set_option maxHeartbeats 4000000 in
set_option maxRecDepth 20000 in
theorem yword_at {l : List UInt8} {z : Bool} (e : decide (Y.word l) = z) (hm : l.length ≤ 140737488351232) (w : World) : Calls Tryz.prog 109 #[.string (strB l)] w (BoolY z w) := by
  obtain ⟨n, hn⟩ : ∃ n, l.length = n := ⟨_, rfl⟩
  rw [hn] at hm
  have hsz : (strB l).size = n := by rw [strB_size, hn]
  have HN := Lib.hid hn
  have HE := Lib.hid e
  clear hn e
  by_cases h0 : n = 0
  · have h1 := HN.out
    have hl : l = [] := List.eq_nil_of_length_eq_zero (h1.trans h0)
    have q2 : l.isEmpty = true := by rw [hl]; rfl
    have Z : Hid (z = false) := Lib.hid (by rw [← HE.out]; exact decide_eq_false (fun h => by have := h.1; omega))
    clear h1 hl h0
    go_enter Tryz.func109, Tryz.ntmps109
    go_wp2
    go_ret
    exact ⟨ret_bool Z.out.symm, rfl⟩
  have hl : l ≠ [] := fun h => h0 (by have := HN.out; rw [h] at this; exact this.symm)
  have q2 : l.isEmpty = false := by cases l with | nil => exact absurd rfl hl | cons a b => rfl
  clear hl
  have n0 : 0 < n := by omega
  clear h0
  by_cases h20 : 20 < n
  · have f1 : decide ((20 : Int) < (n : Int)) = true := decide_eq_true (by omega)
    have f1' : decide (20 < n) = true := decide_eq_true h20
    have Z : Hid (z = false) := Lib.hid (by rw [← HE.out]; exact decide_eq_false (fun h => by have := h.2.1; have := HN.out; omega))
    go_enter Tryz.func109, Tryz.ntmps109
    go_wp2
    go_ret
    exact ⟨ret_bool Z.out.symm, rfl⟩
  have f1 : decide ((20 : Int) < (n : Int)) = false := decide_eq_false (by omega)
  have f1' : decide (20 < n) = false := decide_eq_false h20
  have n20 : n ≤ 20 := by omega
  clear h20
  obtain ⟨x, hx⟩ : ∃ x, l[0]? = some x := ⟨_, List.getElem?_eq_getElem (by have := HN.out; omega)⟩
  have IX := str_at (w := w) hx
  simp only [Int.natCast_zero] at IX
  obtain ⟨c, hc⟩ : ∃ c : Int, (x.toNat : Int) = c := ⟨_, rfl⟩
  rw [hc] at IX
  have HX := Lib.hid hx
  have HC := Lib.hid hc
  clear hx hc
  by_cases h45 : c = 45
  · have g1 : (c == 45) = true := by rw [beq_iff_eq]; exact h45
    have Z : Hid (z = false) := Lib.hid (by rw [← HE.out]; exact decide_eq_false (Y.no_ends HX.out (by have := HC.out; omega) (Or.inl rfl)))
    clear h45
    go_enter Tryz.func109, Tryz.ntmps109
    go_wp2
    go_ret
    exact ⟨ret_bool Z.out.symm, rfl⟩
  have g1 : (c == 45) = false := by rw [beq_eq_false_iff_ne]; exact h45
  have HC45 : Hid (x.toNat ≠ 45) := Lib.hid (fun h => h45 (by have := HC.out; omega))
  clear h45
  obtain ⟨m, hm1⟩ : ∃ m : Nat, m + 1 = n := ⟨n - 1, by omega⟩
  obtain ⟨y, hy⟩ : ∃ y, l[m]? = some y := ⟨_, List.getElem?_eq_getElem (by have := HN.out; omega)⟩
  have IY := str_at (w := w) hy
  obtain ⟨d, hd⟩ : ∃ d : Int, (y.toNat : Int) = d := ⟨_, rfl⟩
  rw [hd] at IY
  have w1 : wrap64 ((n : Int) - 1) = (m : Int) := by rw [show (n : Int) - 1 = (m : Int) by omega]; unfold wrap64; omega
  have w2 : IntKind.i64.wrap ((n : Int) - 1) = (m : Int) := by rw [show (n : Int) - 1 = (m : Int) by omega]; exact IntWalk.i64_in _ (by omega)
  have HY := Lib.hid hy
  have HD := Lib.hid hd
  have HM := Lib.hid hm1
  clear hy hd hm1
  by_cases h45 : d = 45
  · have g2 : (d == 45) = true := by rw [beq_iff_eq]; exact h45
    have Z : Hid (z = false) := Lib.hid (by rw [← HE.out]; exact decide_eq_false (Y.no_ends HY.out (by have := HD.out; omega) (Or.inr (by have := HM.out; have := HN.out; omega))))
    clear h45
    go_enter Tryz.func109, Tryz.ntmps109
    go_wp2
    go_ret
    exact ⟨ret_bool Z.out.symm, rfl⟩
  have g2 : (d == 45) = false := by rw [beq_eq_false_iff_ne]; exact h45
  have HD45 : Hid (y.toNat ≠ 45) := Lib.hid (fun h => h45 (by have := HD.out; omega))
  clear h45
  have YES : Hid (Y.pls l n → Y.word l) := Lib.hid (fun h => Y.is_word (by have := HN.out; omega) (by have := HN.out; omega) HX.out (by rw [HN.out, ← HM.out]; exact HY.out) HC45.out HD45.out (by rw [HN.out]; exact h))
  go_enter Tryz.func109, Tryz.ntmps109
  go_wp2
  go_loop [26] (fun v => ∃ k : Nat, k ≤ n ∧ v = .int .i64 (k : Int) ∧ Y.pls l k) (fun v => n - (intOf v).toNat)
  case atStart => exact ⟨0, by omega, rfl, fun i hi => by omega⟩
  case round =>
    obtain ⟨k, hk, rfl, hno⟩ := hrel
    have HNO := Lib.hid hno
    clear hno IX IY
    have hk0 : (0 : Int) ≤ (k : Int) := by omega
    by_cases hlt : k < n
    · have k1 : decide ((k : Int) < (n : Int)) = true := decide_eq_true (by omega)
      obtain ⟨v, hv⟩ : ∃ v, l[k]? = some v := ⟨_, List.getElem?_eq_getElem (by have := HN.out; omega)⟩
      have IV := str_at (w := w) hv
      obtain ⟨u, hu⟩ : ∃ u : Int, (v.toNat : Int) = u := ⟨_, rfl⟩
      rw [hu] at IV
      obtain ⟨pz, hp⟩ : ∃ pz, decide (Y.pl v.toNat) = pz := ⟨_, rfl⟩
      have CP := fun w => yplain_at hu hp w
      have HV := Lib.hid hv
      have HP := Lib.hid hp
      clear hv hu hp
      cases pz
      · have Z : Hid (z = false) := Lib.hid (by rw [← HE.out]; exact decide_eq_false (Y.no_pl HV.out (of_decide_eq_false HP.out)))
        go_wp2_with (go_at_call 110; refine (CP _).mono ?_; rintro _ wb ⟨rfl, rfl⟩)
        go_ret
        exact ⟨ret_bool Z.out.symm, rfl⟩
      · have Z : Hid (Y.pls l (k + 1)) := Lib.hid (Y.pls_more HV.out HNO.out (of_decide_eq_true HP.out))
        go_wp2_with (go_at_call 110; refine (CP _).mono ?_; rintro _ wb ⟨rfl, rfl⟩)
        go_round
        case rel => exact ⟨k + 1, by omega, by go_num, Z.out⟩
        case measure => simp [intOf]; omega
    · have k1 : decide ((k : Int) < (n : Int)) = false := decide_eq_false (by omega)
      have Z : Hid (z = true) := Lib.hid (by rw [← HE.out]; exact decide_eq_true (YES.out (by have := HNO.out; rwa [show k = n by omega] at this)))
      go_wp2
      go_ret
      exact ⟨ret_bool Z.out.symm, rfl⟩
set_option maxHeartbeats 2000000 in
set_option maxRecDepth 20000 in
theorem yright_any (x : Svc) (hx : YIn x) (w : World) : Calls Tryz.prog 103 #[ysv x] w (BoolB (decide (Y.right x)) w) := by
  obtain ⟨n, pr, po, pi, wt, we⟩ := x
  obtain ⟨hx1, hx2⟩ := hx
  simp only at hx1 hx2
  simp only [ysv]
  have X := Box.new w #[.string (strB n), .string (strB pr), .int .i64 po, .int .i64 pi, .int .i64 wt, .bool we] 46
  have b := (Below.refl w.heap.size w).alloc (Nat.le_refl _) (.cells #[.string (strB n), .string (strB pr), .int .i64 po, .int .i64 pi, .int .i64 wt, .bool we] 46)
  have x0 := X.at 0 rfl
  have x1 := X.at 1 rfl
  have x2 := X.at 2 rfl
  have x3 := X.at 3 rfl
  have x4 := X.at 4 rfl
  obtain ⟨z, hz⟩ : ∃ z, decide (Y.right ⟨n, pr, po, pi, wt, we⟩) = z := ⟨_, rfl⟩
  rw [hz]
  obtain ⟨z1, hz1⟩ : ∃ z, decide (Y.word n) = z := ⟨_, rfl⟩
  obtain ⟨z2, hz2⟩ : ∃ z, decide (Y.word pr) = z := ⟨_, rfl⟩
  obtain ⟨z3, hz3⟩ : ∃ z, decide (1 ≤ po) = z := ⟨_, rfl⟩
  obtain ⟨z4, hz4⟩ : ∃ z, decide (po ≤ 65535) = z := ⟨_, rfl⟩
  obtain ⟨z5, hz5⟩ : ∃ z, decide (0 ≤ pi) = z := ⟨_, rfl⟩
  obtain ⟨z6, hz6⟩ : ∃ z, decide (pi ≤ 65535) = z := ⟨_, rfl⟩
  obtain ⟨z7, hz7⟩ : ∃ z, decide (0 ≤ wt) = z := ⟨_, rfl⟩
  obtain ⟨z8, hz8⟩ : ∃ z, decide (wt ≤ 65535) = z := ⟨_, rfl⟩
  have ALL : Hid (z = (z1 && (z2 && (z3 && (z4 && (z5 && (z6 && (z7 && z8)))))))) := Lib.hid (by
    rw [← hz, ← hz1, ← hz2, ← hz3, ← hz4, ← hz5, ← hz6, ← hz7, ← hz8]
    rw [Bool.eq_iff_iff]
    simp only [decide_eq_true_iff, Bool.and_eq_true]
    constructor
    · rintro ⟨h1, h2, h3, h4, h5, h6⟩
      exact ⟨h1, h2, h3, h4.2, h5.1, h5.2, h6.1, h6.2⟩
    · rintro ⟨h1, h2, h3, h5, h6, h7, h8, h9⟩
      exact ⟨h1, h2, h3, ⟨Int.le_trans (by decide) h3, h5⟩, ⟨h6, h7⟩, h8, h9⟩)
  have H1 := Lib.hid hz1
  have H2 := Lib.hid hz2
  clear hz hz1 hz2
  go_enter Tryz.func103, Tryz.ntmps103
  go_wp2_with fail
  generalize w.alloc (.cells #[.string (strB n), .string (strB pr), .int .i64 po, .int .i64 pi, .int .i64 wt, .bool we] 46) = wa at *
  refine (yword_at H1.out (by omega) _).mono ?_
  rintro _ wb ⟨rfl, rfl⟩
  cases z1
  · skip
    have Z : Hid (z = false) := Lib.hid (by rw [ALL.out]; rfl)
    go_wp2
    go_ret
    exact ⟨ret_bool Z.out.symm, b⟩
  go_wp2_with fail
  refine (yword_at H2.out (by omega) _).mono ?_
  rintro _ wb ⟨rfl, rfl⟩
  cases z2
  · skip
    have Z : Hid (z = false) := Lib.hid (by rw [ALL.out]; rfl)
    go_wp2
    go_ret
    exact ⟨ret_bool Z.out.symm, b⟩
  cases z3
  · skip
    have Z : Hid (z = false) := Lib.hid (by rw [ALL.out]; rfl)
    go_wp2
    go_ret
    exact ⟨ret_bool Z.out.symm, b⟩
  cases z4
  · skip
    have Z : Hid (z = false) := Lib.hid (by rw [ALL.out]; rfl)
    go_wp2
    go_ret
    exact ⟨ret_bool Z.out.symm, b⟩
  cases z5
  · skip
    have Z : Hid (z = false) := Lib.hid (by rw [ALL.out]; rfl)
    go_wp2
    go_ret
    exact ⟨ret_bool Z.out.symm, b⟩
  cases z6
  · skip
    have Z : Hid (z = false) := Lib.hid (by rw [ALL.out]; rfl)
    go_wp2
    go_ret
    exact ⟨ret_bool Z.out.symm, b⟩
  cases z7
  · skip
    have Z : Hid (z = false) := Lib.hid (by rw [ALL.out]; rfl)
    go_wp2
    go_ret
    exact ⟨ret_bool Z.out.symm, b⟩
  cases z8
  · skip
    have Z : Hid (z = false) := Lib.hid (by rw [ALL.out]; rfl)
    go_wp2
    go_ret
    exact ⟨ret_bool Z.out.symm, b⟩
  have Z : Hid (z = true) := Lib.hid (by rw [ALL.out]; rfl)
  go_wp2
  go_ret
  exact ⟨ret_bool Z.out.symm, b⟩
end Go.Proofs.YtmbfldcmiabccaaGreatDoor

namespace Go.Proofs.YtmbfldcmiabccaaGreatDoor
set_option linter.unusedVariables false
set_option linter.unusedSimpArgs false
open Go.RowKit
theorem ytt_at {l t r : List UInt8} {e : Nat} {er most : Int} (hq : Q.taketext l most = (e, t, r)) (he : (e : Int) = er) (A : Option Addr) (n c : Nat) (w : World) (h : Rd w w.heap.size 1 A n (U l)) (hc : n ≤ c ∧ c ≤ 9223372036854775807) :
    Calls Tryz.prog 101 #[.slice A n c, .int .i64 most] w (TTR t r er w) := by
  have := taketext_any A n c w.heap.size l most w h hc.1 hc.2
  rw [hq] at this
  subst he
  exact this.mono fun _ _ ⟨⟨A', c', h1, h2, h3, h4⟩, q, h5⟩ => ⟨⟨A', c', h1, by subst h5; exact h2, h3, h4⟩, by subst h5; exact kdrewY (Below.refl _ _) q⟩
theorem ytake_at {l r : List UInt8} {e N k : Nat} {x er : Int} (hq : Q.take l = (e, N, k)) (hr : Q.rest l = r) (hx : (N : Int) = x) (he : (e : Int) = er) (A : Option Addr) (n c : Nat) (w : World) (h : Rd w w.heap.size 1 A n (U l)) (hc : n ≤ c ∧ c ≤ 9223372036854775807) :
    Calls Tryz.prog 102 #[.slice A n c] w (TNR x r er w) := by
  have := take_any A n c w.heap.size l w h hc.1 hc.2
  rw [hq] at this
  subst he hr hx
  exact this.mono fun _ _ ⟨⟨A', c', h1, h2, h3, h4⟩, h5⟩ => ⟨⟨A', c', h1, by subst h5; exact h2, h3, h4⟩, by subst h5; exact Below.refl _ _⟩
/-- how far the texts are taken -/
def Tst (v nm pr : List UInt8) (k : Nat) (r : List UInt8) : Prop := (k = 0 ∧ nm = [] ∧ pr = [] ∧ r = v) ∨ (k = 1 ∧ pr = [] ∧ Q.taketext v 20 = (0, nm, r)) ∨ (k = 2 ∧ Got v nm pr r)
theorem tst0 {v nm pr r t r1 : List UInt8} {e : Nat} (h : Tst v nm pr 0 r) (hq : Q.taketext r 20 = (e, t, r1)) : (e = 0 → Tst v t pr 1 r1) ∧ (e ≠ 0 → Y.dec v = (Y.none, (e : Int))) := by
  rcases h with ⟨_, rfl, rfl, rfl⟩ | ⟨h, _⟩ | ⟨h, _⟩
  · exact ⟨fun he => Or.inr (Or.inl ⟨rfl, rfl, by rw [hq, he]⟩), fun he => by rw [Y.dec_e1 (by rw [hq]; exact he), hq]⟩
  · cases h
  · cases h
theorem tst1 {v nm pr r t r1 : List UInt8} {e : Nat} (h : Tst v nm pr 1 r) (hq : Q.taketext r 20 = (e, t, r1)) : (e = 0 → Tst v nm t 2 r1) ∧ (e ≠ 0 → Y.dec v = (Y.none, (e : Int))) := by
  rcases h with ⟨h, _⟩ | ⟨_, rfl, h2⟩ | ⟨h, _⟩
  · cases h
  · exact ⟨fun he => Or.inr (Or.inr ⟨rfl, r, h2, by rw [hq, he]⟩), fun he => by rw [Y.dec_e2 h2 (by rw [hq]; exact he), hq]⟩
  · cases h
theorem tst2 {v nm pr r : List UInt8} (h : Tst v nm pr 2 r) : Got v nm pr r := by
  rcases h with ⟨h, _⟩ | ⟨h, _⟩ | ⟨_, h⟩
  · cases h
  · cases h
  · exact h
/-- the frame in the texts' loop -/
def TexA (W : World) (ob tb : Nat) (v : List UInt8) (s14 s4 s5 : Value) (wx : World) : Prop := ∃ (nm pr r : List UInt8) (k : Nat) (A : Option Addr) (c : Nat), k ≤ 2 ∧ s14 = .int .i64 (k : Int) ∧ s4 = .slice A r.length c ∧ s5 = .int .i64 0 ∧ Hid (Tst v nm pr k r) ∧
  Box wx ob 46 #[.string ⟨#[]⟩, .string ⟨#[]⟩, .int .i64 0, .int .i64 0, .int .i64 0, .bool false] ∧ Box wx tb 135 #[.string (strB nm), .string (strB pr)] ∧ Rd wx wx.heap.size 1 A r.length (U r) ∧ Hid (r.length ≤ c ∧ c ≤ 9223372036854775807) ∧ Below W.heap.size W wx
/-- the frame in the numbers' loop -/
def NumA (W : World) (ob tb gb : Nat) (v nm pr : List UInt8) (s30 s4 s5 : Value) (wx : World) : Prop := ∃ (r : List UInt8) (k : Nat) (x0 x1 x2 x3 : Int) (A : Option Addr) (c : Nat), k ≤ 4 ∧ s30 = .int .i64 (k : Int) ∧ s4 = .slice A r.length c ∧ s5 = .int .i64 0 ∧ Hid (Stat v nm pr k x0 x1 x2 x3 r 0) ∧
  Box wx ob 46 #[.string ⟨#[]⟩, .string ⟨#[]⟩, .int .i64 0, .int .i64 0, .int .i64 0, .bool false] ∧ Box wx tb 135 #[.string (strB nm), .string (strB pr)] ∧ Box wx gb 125 #[.int .i64 x0, .int .i64 x1, .int .i64 x2, .int .i64 x3] ∧ Rd wx wx.heap.size 1 A r.length (U r) ∧ Hid (r.length ≤ c ∧ c ≤ 9223372036854775807) ∧ Below W.heap.size W wx
theorem num_err {v nm pr r r' : List UInt8} {k e N j : Nat} {x0 x1 x2 x3 : Int} (hk : k < 4) (h : Stat v nm pr k x0 x1 x2 x3 r 0) (hq : Q.take r = (e, N, j)) (hr : Q.rest r = r') (he : e ≠ 0) : Y.dec v = (Y.none, (e : Int)) := by
  rcases stat_step hk h hq hr with ⟨h1, _⟩ | ⟨_, h2⟩
  · omega
  · exact h2
set_option maxHeartbeats 8000000 in
set_option maxRecDepth 20000 in
theorem ydecode_any (v : List UInt8) (hv : v.length ≤ 140737488351232) (w : World) : Calls Tryz.prog 93 #[.string (strB v)] w (SvR (Y.dec v).1 (Y.dec v).2 w) := by
  have O := Box.new w #[.string ⟨#[]⟩, .string ⟨#[]⟩, .int .i64 0, .int .i64 0, .int .i64 0, .bool false] 46
  have b := (Below.refl w.heap.size w).alloc (Nat.le_refl _) (.cells #[.string ⟨#[]⟩, .string ⟨#[]⟩, .int .i64 0, .int .i64 0, .int .i64 0, .bool false] 46)
  go_enter Tryz.func93, Tryz.ntmps93
  go_upto_region 1 with fail
  have hob := O.lt
  generalize w.alloc (.cells #[.string ⟨#[]⟩, .string ⟨#[]⟩, .int .i64 0, .int .i64 0, .int .i64 0, .bool false] 46) = w1 at *
  have hby := run_bytes w1 (strB v)
  have hcg := strC_ge w1 (strB v)
  have hcl := strC_le w1 (strB v) (by rw [strB_size]; unfold maxLen; omega)
  unfold maxLen at hcl
  have R : Rd (w1.alloc (strO w1 (strB v))).drew (w1.alloc (strO w1 (strB v))).drew.heap.size 1 (some ⟨w1.heap.size, 0, none⟩) v.length (U v) := (Rd.bytes w1 v).more (show w1.heap.size + 1 ≤ (w1.drew.alloc (strO w1 (strB v))).heap.size by simp)
  rw [strB_size] at hby hcg
  generalize strC w1 (strB v) = cv at *
  replace O := (O.alloc (strO w1 (strB v))).drew
  replace b := (b.alloc b.size (strO w1 (strB v))).drew
  go_upto_region 3 with fail
  clear hby
  have hob := O.lt
  generalize (w1.alloc (strO w1 (strB v))).drew = w2 at *
  generalize w1.heap.size = vb at *
  have HC : Hid (v.length ≤ cv ∧ cv ≤ 9223372036854775807) := Lib.hid ⟨hcg, hcl⟩
  clear hcg hcl
  have T := Box.new w2 #[.string ⟨#[]⟩, .string ⟨#[]⟩] 135
  replace R := R.belowH ((Below.refl w2.heap.size w2).alloc (Nat.le_refl _) (.cells #[.string ⟨#[]⟩, .string ⟨#[]⟩] 135))
  replace O := O.alloc (.cells #[.string ⟨#[]⟩, .string ⟨#[]⟩] 135)
  replace b := b.alloc b.size (.cells #[.string ⟨#[]⟩, .string ⟨#[]⟩] 135)
  go_wp2
  generalize w2.alloc (.cells #[.string ⟨#[]⟩, .string ⟨#[]⟩] 135) = w3 at *
  generalize w2.heap.size = tb at *
  go_loopw [14, 4, 5] (TexA w w.heap.size tb v) (fun i _ _ _ => 2 - (intOf i).toNat)
  case atStart => exact ⟨[], [], v, 0, _, _, by omega, rfl, rfl, rfl, Lib.hid (Or.inl ⟨rfl, rfl, rfl, rfl⟩), O, T, R, HC, b⟩
  case round =>
    clear O T R HC b
    obtain ⟨nm, pr, r, k, A, c, hk, rfl, rfl, rfl, HST, O, T, R, HC, b⟩ := hrel
    have hk0 : (0 : Int) ≤ (k : Int) := by omega
    by_cases hk2 : k < 2
    · have g1 : decide ((k : Int) < 2) = true := decide_eq_true (by omega)
      have g1' : decide (k < 2) = true := decide_eq_true hk2
      rcases hT : Q.taketext r 20 with ⟨e1, t, r1⟩
      obtain ⟨z1, hz1⟩ : ∃ z : Int, (e1 : Int) = z := ⟨_, rfl⟩
      have HA := Lib.hid (And.intro hT hz1)
      clear hT hz1
      go_wp2_with fail
      refine (ytt_at HA.out.1 HA.out.2 _ _ _ _ R HC.out).mono ?_
      rintro _ wk ⟨⟨A6, c6, rfl, R6, hc6⟩, hb⟩
      have HC6 := Lib.hid hc6
      replace O := O.belowH hb
      replace T := T.belowH hb
      replace b := b.trans (hb.mono b.size)
      clear hb R HC hc6
      obtain ⟨tu, tk⟩ : ∃ u, wk.cell? ⟨tb, k, none⟩ = some (.string u) := by
        have hkk : k = 0 ∨ k = 1 := by omega
        rcases hkk with rfl | rfl
        · exact ⟨_, T.at 0 (v := .string (strB nm)) rfl⟩
        · exact ⟨_, T.at 1 (v := .string (strB pr)) rfl⟩
      have tc := T.cold
      have tl := T.lt
      go_upto_region 8 with fail
      have T2 := T.set k (.string (strB t))
      have O2 := O.other (b' := tb) (o := k) (by omega) (.string (strB t))
      have b2 := below_set (o := k) b (show w.heap.size ≤ tb by omega) (.string (strB t))
      have R2 : Rd (wk.setCell ⟨tb, k, none⟩ (.string (strB t))) (wk.setCell ⟨tb, k, none⟩ (.string (strB t))).heap.size 1 A6 r1.length (U r1) := rd_box T rfl R6 _
      clear O T b R6 tk tc tl
      generalize wk.setCell ⟨tb, k, none⟩ (.string (strB t)) = wy at *
      have hkk : k = 0 ∨ k = 1 := by omega
      by_cases hz : z1 = 0
      · subst hz
        have hz0 : e1 = 0 := by have := HA.out.2; omega
        rcases hkk with rfl | rfl
        · have N : Hid (Tst v t pr 1 r1) := Lib.hid ((tst0 HST.out HA.out.1).1 hz0)
          clear HA HST hz0
          go_wp2
          go_roundw
          case rel => exact ⟨t, pr, r1, 1, A6, c6, by omega, by go_num, rfl, rfl, N, O2, T2, R2, HC6, b2⟩
          case measure => simp [intOf]
        · have N : Hid (Tst v nm t 2 r1) := Lib.hid ((tst1 HST.out HA.out.1).1 hz0)
          clear HA HST hz0
          go_wp2
          go_roundw
          case rel => exact ⟨nm, t, r1, 2, A6, c6, by omega, by go_num, rfl, rfl, N, O2, T2, R2, HC6, b2⟩
          case measure => simp [intOf]
      · have u1 : (z1 != 0) = true := bne_iff_ne.2 hz
        have u2 : (z1 == 0) = false := beq_eq_false_iff_ne.2 hz
        have E : Hid (Y.dec v = (Y.none, z1)) := Lib.hid (by
          have h1 : e1 ≠ 0 := fun h => hz (by rw [← HA.out.2, h]; rfl)
          rw [← HA.out.2]
          rcases hkk with rfl | rfl
          · exact (tst0 HST.out HA.out.1).2 h1
          · exact (tst1 HST.out HA.out.1).2 h1)
        have O9 := O2
        have b9 := b2
        clear hz HA HST hkk T2 R2 HC6 O2 b2
        have o0 := O9.at 0 (v := .string ⟨#[]⟩) rfl
        have o1 := O9.at 1 (v := .string ⟨#[]⟩) rfl
        have o2 := O9.at 2 (v := .int .i64 0) rfl
        have o3 := O9.at 3 (v := .int .i64 0) rfl
        have o4 := O9.at 4 (v := .int .i64 0) rfl
        have o5 := O9.at 5 (v := .bool false) rfl
        have oc := O9.cold
        go_wp2
        have Q0 := (((((O9.set 0 (.string ⟨#[]⟩)).set 1 (.string ⟨#[]⟩)).set 2 (.int .i64 0)).set 3 (.int .i64 0)).set 4 (.int .i64 0)).set 5 (.bool false)
        have q0 := Q0.at 0 (v := .string ⟨#[]⟩) rfl
        have q1 := Q0.at 1 (v := .string ⟨#[]⟩) rfl
        have q2 := Q0.at 2 (v := .int .i64 0) rfl
        have q3 := Q0.at 3 (v := .int .i64 0) rfl
        have q4 := Q0.at 4 (v := .int .i64 0) rfl
        have q5 := Q0.at 5 (v := .bool false) rfl
        refine bodyPost_ret (v := .tuple #[.agg #[.string ⟨#[]⟩, .string ⟨#[]⟩, .int .i64 0, .int .i64 0, .int .i64 0, .bool false], .int .i64 z1]) (by simp [results, Tryz.results93, go_sem, q0, q1, q2, q3, q4, q5]; try rfl) rfl ⟨by rw [E.out]; rfl, ?_⟩
        repeat (first | (with_reducible exact b9) | (with_reducible refine below_set ?_ (by omega) _))
    · have ek : k = 2 := by omega
      have g1 : decide ((k : Int) < 2) = false := decide_eq_false (by omega)
      have g1' : decide (k < 2) = false := decide_eq_false (by omega)
      have GOT : Hid (Stat v nm pr 0 0 0 0 0 r 0) := Lib.hid (stat_start (tst2 (by rw [← ek]; exact HST.out)))
      generalize hkc : k = kc at *
      clear hk hk0 hk2 HST ek hkc
      go_upto_region 11 with fail
      have htl := T.lt
      have G := Box.new wr #[.int .i64 0, .int .i64 0, .int .i64 0, .int .i64 0] 125
      replace R := R.belowH ((Below.refl wr.heap.size wr).alloc (Nat.le_refl _) (.cells #[.int .i64 0, .int .i64 0, .int .i64 0, .int .i64 0] 125))
      replace O := O.alloc (.cells #[.int .i64 0, .int .i64 0, .int .i64 0, .int .i64 0] 125)
      replace T := T.alloc (.cells #[.int .i64 0, .int .i64 0, .int .i64 0, .int .i64 0] 125)
      replace b := b.alloc b.size (.cells #[.int .i64 0, .int .i64 0, .int .i64 0, .int .i64 0] 125)
      go_wp2
      generalize wr.alloc (.cells #[.int .i64 0, .int .i64 0, .int .i64 0, .int .i64 0] 125) = w4 at *
      generalize wr.heap.size = gb at *
      go_loopw [30, 4, 5] (NumA w w.heap.size tb gb v nm pr) (fun i _ _ _ => 4 - (intOf i).toNat)
      case atStart => exact ⟨r, 0, 0, 0, 0, 0, A, c, by omega, rfl, rfl, rfl, GOT, O, T, G, R, HC, b⟩
      case round =>
        clear O T G R HC b GOT
        obtain ⟨r', k, x0, x1, x2, x3, A', c', hk, rfl, rfl, rfl, HST, O, T, G, R, HC, b⟩ := hrel
        have hk0 : (0 : Int) ≤ (k : Int) := by omega
        by_cases hk4 : k < 4
        · have g1 : decide ((k : Int) < 4) = true := decide_eq_true (by omega)
          have g1' : decide (k < 4) = true := decide_eq_true (by omega)
          rcases hT : Q.take r' with ⟨e5, N5, j5⟩
          obtain ⟨z5, hz5⟩ : ∃ z : Int, (e5 : Int) = z := ⟨_, rfl⟩
          obtain ⟨x5, hx5⟩ : ∃ z : Int, (N5 : Int) = z := ⟨_, rfl⟩
          obtain ⟨r5, hr5⟩ : ∃ l, Q.rest r' = l := ⟨_, rfl⟩
          have NST := Lib.hid (stat_step hk4 HST.out hT hr5)
          rw [hz5, hx5] at NST
          have HA := Lib.hid (And.intro hT (And.intro hr5 (And.intro hx5 hz5)))
          clear hT hz5 hx5 hr5
          go_wp2_with fail
          refine (ytake_at HA.out.1 HA.out.2.1 HA.out.2.2.1 HA.out.2.2.2 _ _ _ _ R HC.out).mono ?_
          rintro _ wk ⟨⟨A6, c6, rfl, R6, hc6⟩, hb⟩
          have HC6 := Lib.hid hc6
          replace O := O.belowH hb
          replace T := T.belowH hb
          replace G := G.belowH hb
          replace b := b.trans (hb.mono b.size)
          clear hb R HC hc6
          obtain ⟨yu, yk⟩ : ∃ u, wk.cell? ⟨gb, k, none⟩ = some (.int .i64 u) := by
            have hkk : k = 0 ∨ k = 1 ∨ k = 2 ∨ k = 3 := by omega
            rcases hkk with rfl | rfl | rfl | rfl
            · exact ⟨_, G.at 0 (v := .int .i64 x0) rfl⟩
            · exact ⟨_, G.at 1 (v := .int .i64 x1) rfl⟩
            · exact ⟨_, G.at 2 (v := .int .i64 x2) rfl⟩
            · exact ⟨_, G.at 3 (v := .int .i64 x3) rfl⟩
          have yc := G.cold
          have yl := G.lt
          go_upto_region 16 with fail
          have G2 := G.set k (.int .i64 x5)
          have O2 := O.other (b' := gb) (o := k) (by omega) (.int .i64 x5)
          have T2 := T.other (b' := gb) (o := k) (by omega) (.int .i64 x5)
          have b2 := below_set (o := k) b (show w.heap.size ≤ gb by omega) (.int .i64 x5)
          have R2 : Rd (wk.setCell ⟨gb, k, none⟩ (.int .i64 x5)) (wk.setCell ⟨gb, k, none⟩ (.int .i64 x5)).heap.size 1 A6 r5.length (U r5) := rd_box G rfl R6 _
          clear O T G b R6 yk yc yl
          generalize wk.setCell ⟨gb, k, none⟩ (.int .i64 x5) = wy at *
          by_cases hz : z5 = 0
          · subst hz
            clear HA HST
            have hkk : k = 0 ∨ k = 1 ∨ k = 2 ∨ k = 3 := by omega
            rcases hkk with rfl | rfl | rfl | rfl
            all_goals go_wp2
            all_goals go_roundw
            case rel => exact ⟨r5, 1, x5, x1, x2, x3, A6, c6, by omega, by go_num, rfl, rfl, NST, O2, T2, G2, R2, HC6, b2⟩
            case rel => exact ⟨r5, 2, x0, x5, x2, x3, A6, c6, by omega, by go_num, rfl, rfl, NST, O2, T2, G2, R2, HC6, b2⟩
            case rel => exact ⟨r5, 3, x0, x1, x5, x3, A6, c6, by omega, by go_num, rfl, rfl, NST, O2, T2, G2, R2, HC6, b2⟩
            case rel => exact ⟨r5, 4, x0, x1, x2, x5, A6, c6, by omega, by go_num, rfl, rfl, NST, O2, T2, G2, R2, HC6, b2⟩
            all_goals (simp [intOf])
          · have u1 : (z5 != 0) = true := bne_iff_ne.2 hz
            have u2 : (z5 == 0) = false := beq_eq_false_iff_ne.2 hz
            have E : Hid (Y.dec v = (Y.none, z5)) := Lib.hid (by
              have h1 : e5 ≠ 0 := fun h => hz (by rw [← HA.out.2.2.2, h]; rfl)
              rw [← HA.out.2.2.2]
              exact num_err hk4 HST.out HA.out.1 HA.out.2.1 h1)
            have O9 := O2
            have b9 := b2
            clear hz HA HST NST T2 G2 R2 HC6 O2 b2
            have o0 := O9.at 0 (v := .string ⟨#[]⟩) rfl
            have o1 := O9.at 1 (v := .string ⟨#[]⟩) rfl
            have o2 := O9.at 2 (v := .int .i64 0) rfl
            have o3 := O9.at 3 (v := .int .i64 0) rfl
            have o4 := O9.at 4 (v := .int .i64 0) rfl
            have o5 := O9.at 5 (v := .bool false) rfl
            have oc := O9.cold
            go_wp2
            have Q0 := (((((O9.set 0 (.string ⟨#[]⟩)).set 1 (.string ⟨#[]⟩)).set 2 (.int .i64 0)).set 3 (.int .i64 0)).set 4 (.int .i64 0)).set 5 (.bool false)
            have q0 := Q0.at 0 (v := .string ⟨#[]⟩) rfl
            have q1 := Q0.at 1 (v := .string ⟨#[]⟩) rfl
            have q2 := Q0.at 2 (v := .int .i64 0) rfl
            have q3 := Q0.at 3 (v := .int .i64 0) rfl
            have q4 := Q0.at 4 (v := .int .i64 0) rfl
            have q5 := Q0.at 5 (v := .bool false) rfl
            refine bodyPost_ret (v := .tuple #[.agg #[.string ⟨#[]⟩, .string ⟨#[]⟩, .int .i64 0, .int .i64 0, .int .i64 0, .bool false], .int .i64 z5]) (by simp [results, Tryz.results93, go_sem, q0, q1, q2, q3, q4, q5]; try rfl) rfl ⟨by rw [E.out]; rfl, ?_⟩
            repeat (first | (with_reducible exact b9) | (with_reducible refine below_set ?_ (by omega) _))
        · obtain rfl : k = 4 := by omega
          have g1 : decide ((4 : Int) < 4) = false := by decide
          obtain ⟨n0, n1, n2, n3, h0, h1, h2, h3, hd, hn1, hn2⟩ := stat_end HST.out
          have HD := Lib.hid hd
          have HN := Lib.hid (And.intro h0 (And.intro h1 (And.intro h2 h3)))
          have HL := Lib.hid (And.intro hn1 hn2)
          clear hd h0 h1 h2 h3 HST hn1 hn2 hk hk0 hk4
          obtain ⟨b3, hb3⟩ : ∃ z : Bool, (x3 == 1) = z := ⟨_, rfl⟩
          have y0 := G.at 0 (v := .int .i64 x0) rfl
          have y1 := G.at 1 (v := .int .i64 x1) rfl
          have y2 := G.at 2 (v := .int .i64 x2) rfl
          have y3 := G.at 3 (v := .int .i64 x3) rfl
          have t0 := T.at 0 (v := .string (strB nm)) rfl
          have t1 := T.at 1 (v := .string (strB pr)) rfl
          go_upto_region 21 with fail
          have S9 := Box.new wr #[.string (strB nm), .string (strB pr), .int .i64 x0, .int .i64 x1, .int .i64 x2, .bool b3] 46
          have O9 := O.alloc (.cells #[.string (strB nm), .string (strB pr), .int .i64 x0, .int .i64 x1, .int .i64 x2, .bool b3] 46)
          have b9 := b.alloc b.size (.cells #[.string (strB nm), .string (strB pr), .int .i64 x0, .int .i64 x1, .int .i64 x2, .bool b3] 46)
          clear O T G R HC b y0 y1 y2 y3 t0 t1
          generalize wr.alloc (.cells #[.string (strB nm), .string (strB pr), .int .i64 x0, .int .i64 x1, .int .i64 x2, .bool b3] 46) = w9 at *
          generalize wr.heap.size = sb at *
          have HBB : Hid (b3 = decide (n3 = 1)) := Lib.hid (by rw [← hb3, ← HN.out.2.2.2]; rw [Bool.eq_iff_iff, beq_iff_eq, decide_eq_true_iff]; omega)
          have HX3 : Hid ((n3 : Int) = x3) := Lib.hid HN.out.2.2.2
          clear hb3
          by_cases hr : r'.length = 0
          rotate_left
          · have f1 : decide ((0 : Int) < (r'.length : Int)) = true := decide_eq_true (by omega)
            have f1' : decide (0 < r'.length) = true := decide_eq_true (by omega)
            have E : Hid (Y.dec v = (Y.none, 3)) := Lib.hid (by rw [HD.out]; exact made_no (fun h => hr (by rw [h.1]; rfl)))
            clear hr S9
            have o0 := O9.at 0 (v := .string ⟨#[]⟩) rfl
            have o1 := O9.at 1 (v := .string ⟨#[]⟩) rfl
            have o2 := O9.at 2 (v := .int .i64 0) rfl
            have o3 := O9.at 3 (v := .int .i64 0) rfl
            have o4 := O9.at 4 (v := .int .i64 0) rfl
            have o5 := O9.at 5 (v := .bool false) rfl
            have oc := O9.cold
            go_wp2
            have Q0 := (((((O9.set 0 (.string ⟨#[]⟩)).set 1 (.string ⟨#[]⟩)).set 2 (.int .i64 0)).set 3 (.int .i64 0)).set 4 (.int .i64 0)).set 5 (.bool false)
            have q0 := Q0.at 0 (v := .string ⟨#[]⟩) rfl
            have q1 := Q0.at 1 (v := .string ⟨#[]⟩) rfl
            have q2 := Q0.at 2 (v := .int .i64 0) rfl
            have q3 := Q0.at 3 (v := .int .i64 0) rfl
            have q4 := Q0.at 4 (v := .int .i64 0) rfl
            have q5 := Q0.at 5 (v := .bool false) rfl
            refine bodyPost_ret (v := .tuple #[.agg #[.string ⟨#[]⟩, .string ⟨#[]⟩, .int .i64 0, .int .i64 0, .int .i64 0, .bool false], .int .i64 3]) (by simp [results, Tryz.results93, go_sem, q0, q1, q2, q3, q4, q5]; try rfl) rfl ⟨by rw [E.out]; rfl, ?_⟩
            repeat (first | (with_reducible exact b9) | (with_reducible refine below_set ?_ (by omega) _))
          have f1 : decide ((0 : Int) < (r'.length : Int)) = false := decide_eq_false (by omega)
          have f1' : decide (0 < r'.length) = false := decide_eq_false (by omega)
          have HR : Hid (r' = []) := Lib.hid (List.eq_nil_of_length_eq_zero hr)
          clear hr
          by_cases h3 : 1 < x3
          · have f2 : decide ((1 : Int) < x3) = true := decide_eq_true h3
            have E : Hid (Y.dec v = (Y.none, 3)) := Lib.hid (by rw [HD.out]; exact made_no (fun h => by have := h.2.1; have := HX3.out; omega))
            clear h3 S9
            have o0 := O9.at 0 (v := .string ⟨#[]⟩) rfl
            have o1 := O9.at 1 (v := .string ⟨#[]⟩) rfl
            have o2 := O9.at 2 (v := .int .i64 0) rfl
            have o3 := O9.at 3 (v := .int .i64 0) rfl
            have o4 := O9.at 4 (v := .int .i64 0) rfl
            have o5 := O9.at 5 (v := .bool false) rfl
            have oc := O9.cold
            go_wp2
            have Q0 := (((((O9.set 0 (.string ⟨#[]⟩)).set 1 (.string ⟨#[]⟩)).set 2 (.int .i64 0)).set 3 (.int .i64 0)).set 4 (.int .i64 0)).set 5 (.bool false)
            have q0 := Q0.at 0 (v := .string ⟨#[]⟩) rfl
            have q1 := Q0.at 1 (v := .string ⟨#[]⟩) rfl
            have q2 := Q0.at 2 (v := .int .i64 0) rfl
            have q3 := Q0.at 3 (v := .int .i64 0) rfl
            have q4 := Q0.at 4 (v := .int .i64 0) rfl
            have q5 := Q0.at 5 (v := .bool false) rfl
            refine bodyPost_ret (v := .tuple #[.agg #[.string ⟨#[]⟩, .string ⟨#[]⟩, .int .i64 0, .int .i64 0, .int .i64 0, .bool false], .int .i64 3]) (by simp [results, Tryz.results93, go_sem, q0, q1, q2, q3, q4, q5]; try rfl) rfl ⟨by rw [E.out]; rfl, ?_⟩
            repeat (first | (with_reducible exact b9) | (with_reducible refine below_set ?_ (by omega) _))
          have f2 : decide ((1 : Int) < x3) = false := decide_eq_false h3
          have H31 : Hid (n3 ≤ 1) := Lib.hid (by have := HX3.out; omega)
          have HS : Hid ((⟨nm, pr, (n0 : Int), (n1 : Int), (n2 : Int), decide (n3 = 1)⟩ : Svc) = ⟨nm, pr, x0, x1, x2, b3⟩) := Lib.hid (by rw [HN.out.1, HN.out.2.1, HN.out.2.2.1, ← HBB.out])
          clear h3
          have s0 := S9.at 0 (v := .string (strB nm)) rfl
          have s1 := S9.at 1 (v := .string (strB pr)) rfl
          have s2 := S9.at 2 (v := .int .i64 x0) rfl
          have s3 := S9.at 3 (v := .int .i64 x1) rfl
          have s4 := S9.at 4 (v := .int .i64 x2) rfl
          have s5 := S9.at 5 (v := .bool b3) rfl
          go_wp2_with fail
          refine (yright_any ⟨nm, pr, x0, x1, x2, b3⟩ ⟨by show nm.length ≤ _; have := HL.out.1; omega, by show pr.length ≤ _; have := HL.out.2; omega⟩ _).mono ?_
          rintro _ wz ⟨rfl, hb⟩
          clear s0 s1 s2 s3 s4 s5
          replace S9 := S9.belowH hb
          replace O9 := O9.belowH hb
          replace b9 := b9.trans (hb.mono b9.size)
          clear hb
          by_cases hy : Y.right ⟨nm, pr, x0, x1, x2, b3⟩
          rotate_left
          · have E : Hid (Y.dec v = (Y.none, 3)) := Lib.hid (by rw [HD.out]; exact made_no (fun h => hy (by rw [← HS.out]; exact h.2.2)))
            rw [decide_eq_false hy]
            clear hy S9
            have o0 := O9.at 0 (v := .string ⟨#[]⟩) rfl
            have o1 := O9.at 1 (v := .string ⟨#[]⟩) rfl
            have o2 := O9.at 2 (v := .int .i64 0) rfl
            have o3 := O9.at 3 (v := .int .i64 0) rfl
            have o4 := O9.at 4 (v := .int .i64 0) rfl
            have o5 := O9.at 5 (v := .bool false) rfl
            have oc := O9.cold
            go_wp2
            have Q0 := (((((O9.set 0 (.string ⟨#[]⟩)).set 1 (.string ⟨#[]⟩)).set 2 (.int .i64 0)).set 3 (.int .i64 0)).set 4 (.int .i64 0)).set 5 (.bool false)
            have q0 := Q0.at 0 (v := .string ⟨#[]⟩) rfl
            have q1 := Q0.at 1 (v := .string ⟨#[]⟩) rfl
            have q2 := Q0.at 2 (v := .int .i64 0) rfl
            have q3 := Q0.at 3 (v := .int .i64 0) rfl
            have q4 := Q0.at 4 (v := .int .i64 0) rfl
            have q5 := Q0.at 5 (v := .bool false) rfl
            refine bodyPost_ret (v := .tuple #[.agg #[.string ⟨#[]⟩, .string ⟨#[]⟩, .int .i64 0, .int .i64 0, .int .i64 0, .bool false], .int .i64 3]) (by simp [results, Tryz.results93, go_sem, q0, q1, q2, q3, q4, q5]; try rfl) rfl ⟨by rw [E.out]; rfl, ?_⟩
            repeat (first | (with_reducible exact b9) | (with_reducible refine below_set ?_ (by omega) _))
          have E : Hid (Y.dec v = (⟨nm, pr, x0, x1, x2, b3⟩, 0)) := Lib.hid (by rw [HD.out, made_yes HR.out H31.out (by rw [HS.out]; exact hy), HS.out])
          rw [decide_eq_true hy]
          clear hy
          have s0 := S9.at 0 (v := .string (strB nm)) rfl
          have s1 := S9.at 1 (v := .string (strB pr)) rfl
          have s2 := S9.at 2 (v := .int .i64 x0) rfl
          have s3 := S9.at 3 (v := .int .i64 x1) rfl
          have s4 := S9.at 4 (v := .int .i64 x2) rfl
          have s5 := S9.at 5 (v := .bool b3) rfl
          have o0 := O9.at 0 (v := .string ⟨#[]⟩) rfl
          have o1 := O9.at 1 (v := .string ⟨#[]⟩) rfl
          have o2 := O9.at 2 (v := .int .i64 0) rfl
          have o3 := O9.at 3 (v := .int .i64 0) rfl
          have o4 := O9.at 4 (v := .int .i64 0) rfl
          have o5 := O9.at 5 (v := .bool false) rfl
          have oc := O9.cold
          go_wp2
          have Q0 := (((((O9.set 0 (.string (strB nm))).set 1 (.string (strB pr))).set 2 (.int .i64 x0)).set 3 (.int .i64 x1)).set 4 (.int .i64 x2)).set 5 (.bool b3)
          have q0 := Q0.at 0 (v := .string (strB nm)) rfl
          have q1 := Q0.at 1 (v := .string (strB pr)) rfl
          have q2 := Q0.at 2 (v := .int .i64 x0) rfl
          have q3 := Q0.at 3 (v := .int .i64 x1) rfl
          have q4 := Q0.at 4 (v := .int .i64 x2) rfl
          have q5 := Q0.at 5 (v := .bool b3) rfl
          refine bodyPost_ret (v := .tuple #[.agg #[.string (strB nm), .string (strB pr), .int .i64 x0, .int .i64 x1, .int .i64 x2, .bool b3], .int .i64 0]) (by simp [results, Tryz.results93, go_sem, q0, q1, q2, q3, q4, q5]; try rfl) rfl ⟨by rw [E.out]; rfl, ?_⟩
          repeat (first | (with_reducible exact b9) | (with_reducible refine below_set ?_ (by omega) _))
end Go.Proofs.YtmbfldcmiabccaaGreatDoor

namespace Go.Proofs.YtmbfldcmiabccaaGreatDoor
set_option linter.unusedVariables false
set_option linter.unusedSimpArgs false
open Go.RowKit Go.Shelf
attribute [local go_sem] Oper.semAt_some
namespace Y
/-- a table's services by their keys -/
def lst : List Ent → List (Int × Svc)
  | [] => []
  | x :: r => if tells x then (x.key, (dec x.val).1) :: lst r else lst r
theorem lst_append : ∀ a b : List Ent, lst (a ++ b) = lst a ++ lst b
  | [], b => rfl
  | x :: r, b => by
    show (if tells x then _ :: lst (r ++ b) else lst (r ++ b)) = (if tells x then _ :: lst r else lst r) ++ lst b
    rw [lst_append r b]
    split <;> rfl
theorem lst_yes {l : List Ent} {k : Nat} {x : Ent} (h : l[k]? = some x) (ht : tells x) : lst (l.take (k + 1)) = lst (l.take k) ++ [(x.key, (dec x.val).1)] := by
  rw [take_more h, lst_append]
  show _ ++ (if tells x then _ else _) = _
  rw [if_pos ht]
  rfl
theorem lst_no {l : List Ent} {k : Nat} {x : Ent} (h : l[k]? = some x) (ht : ¬ tells x) : lst (l.take (k + 1)) = lst (l.take k) := by
  rw [take_more h, lst_append]
  show _ ++ (if tells x then _ else _) = _
  rw [if_neg ht]
  exact List.append_nil _
theorem lst_prefix (l : List Ent) (k : Nat) : lst (l.take k) <+: lst l := ⟨lst (l.drop k), by rw [← lst_append, List.take_append_drop]⟩
theorem lst_len : ∀ l : List Ent, (lst l).length ≤ l.length
  | [] => Nat.le_refl _
  | x :: r => by
    have := lst_len r
    show (if tells x then _ :: lst r else lst r).length ≤ r.length + 1
    split
    · simp only [List.length_cons]; omega
    · omega
theorem lst_room {l : List Ent} {k : Nat} {x : Ent} (h : l[k]? = some x) (ht : tells x) : (lst (l.take k)).length < (lst l).length := by
  obtain ⟨t, e⟩ := lst_prefix l (k + 1)
  rw [← e, lst_yes h ht]
  simp only [List.length_append, List.length_cons, List.length_nil]
  omega
theorem all_lst : ∀ l : List Ent, all l = (lst l).map (·.2)
  | [] => rfl
  | x :: r => by
    show (if tells x then (dec x.val).1 :: all r else all r) = (if tells x then _ :: lst r else lst r).map _
    rw [all_lst r]
    split <;> rfl
end Y
/-- what a round is handed -/
abbrev encsY (p : Int × Svc) : Array Value := #[.int .i64 p.1, ysv p.2]
theorem grown_none {w w' : World} (h : Below w.heap.size w w') : w.grownBy w' none := ⟨h.os, h.tape, h.output, h.size, fun k hk _ => h.block k hk⟩
set_option maxRecDepth 100000 in
set_option maxHeartbeats 4000000 in
theorem yserv1_in (n : Nat) (hn : 1 ≤ n) (lp Bs n₀ : Nat) (A : Option Addr) (len cap : Nat) (l : List Ent) (hlen : len ≤ 1000000) (hv : ∀ x ∈ l, x.val.length ≤ 140737488351232) (J Jx : List (Int × Svc) → World → Prop)
    (hJ : ∀ s W W', J s W → Below W.heap.size W W' → J s W')
    (hY : ∀ pre x W, J pre W → pre.length < (Y.lst l).length → YieldAt Fence.wide (n - 1) Tryz.prog lp (encsY x) W fun e W' =>
      (e = .returned (.bool true) ∧ J (pre ++ [x]) W' ∧ Below n₀ W W') ∨ (e = .returned (.bool false) ∧ Jx (pre ++ [x]) W'))
    (W : World) (hn0 : n₀ ≤ W.heap.size) (hBs : W.cell? ⟨Bs, 0, none⟩ = some (.slice A len cap)) (hr : Rd W n₀ 3 A len (EC l)) (h0 : J [] W) :
    CallsIn Fence.wide n Tryz.prog 92 #[.func (.yield lp) #[] #[], .pointer (some ⟨Bs, 0, none⟩)] W fun e W' => (∃ v, e = .returned v) ∧
      ((∃ ys, ys = Y.lst l ∧ J ys W') ∨ (∃ pre, pre <+: Y.lst l ∧ Jx pre W')) := by
  have HL := Lib.hid hr.lenE
  refine callsIn_of_wp Tryz.func92 rfl trivial ?_ rfl
  simp only [Tryz.ntmps92, List.size_toArray, List.length_cons, List.length_nil, Nat.reduceAdd, Nat.reduceSub, Array.replicate_succ, Array.replicate_zero, List.push_toArray, List.append_toArray, List.nil_append, List.cons_append]
  gi_wp2
  gi_loopw [9] (fun i wr => ∃ k : Nat, k ≤ len ∧ i = .int .i64 k ∧ J (Y.lst (l.take k)) wr ∧ Below n₀ W wr)
    (fun i _ => len - (intOf i).toNat)
  case atStart => exact ⟨0, Nat.zero_le _, rfl, h0, Below.refl _ _⟩
  case round =>
    obtain ⟨k, hk, rfl, hJs, hnx⟩ := hrel
    by_cases hlt : k < len
    · obtain ⟨b, o, x, e1, hb, hx, c0, c1, c2⟩ := (hr.below hnx).atE hlt
      have HX := Lib.hid hx
      clear hx
      subst e1
      have nb : n₀ ≤ wr.heap.size := by have := hnx.size; omega
      have hvx := hv x (by have := HX.out; exact List.mem_of_getElem? this)
      clear hBs hr h0
      obtain ⟨key, ver, val⟩ := x
      simp only at c0 c1 c2 hvx
      by_cases hk3 : key < 3
      · have f1 : decide (key < 3) = true := decide_eq_true hk3
        have nt : ¬ Y.tells ⟨key, ver, val⟩ := fun h => by have h1 : 3 ≤ key := h.1; omega
        have J2 := hJ _ _ _ hJs ((Below.refl wr.heap.size wr).alloc (Nat.le_refl _) (.cells #[.int .i64 key, .int .i64 ver, .string (strB val)] 48))
        rw [← Y.lst_no HX.out nt] at J2
        have b2 := hnx.alloc nb (.cells #[.int .i64 key, .int .i64 ver, .string (strB val)] 48)
        clear nt
        gi_wp2
        go_roundw
        case rel => exact ⟨k + 1, by omega, by simp, J2, b2⟩
        case measure => simp [intOf]; omega
      · have f1 : decide (key < 3) = false := decide_eq_false hk3
        have X := Box.new wr #[.int .i64 key, .int .i64 ver, .string (strB val)] 48
        have J2 := hJ _ _ _ hJs ((Below.refl wr.heap.size wr).alloc (Nat.le_refl _) (.cells #[.int .i64 key, .int .i64 ver, .string (strB val)] 48))
        have b2 := hnx.alloc nb (.cells #[.int .i64 key, .int .i64 ver, .string (strB val)] 48)
        gi_wp2_with fail
        refine ⟨trivial, (callsIn_wide.2 (ydecode_any val hvx _)).mono ?_⟩
        generalize wr.alloc (.cells #[.int .i64 key, .int .i64 ver, .string (strB val)] 48) = wx at *
        rintro _ w5 ⟨rfl, hb5⟩
        replace X := X.belowH hb5
        replace J2 := hJ _ _ _ J2 hb5
        replace b2 := b2.trans (hb5.mono (by have := b2.size; omega))
        clear hb5 c0 c1 c2
        have nb5 : n₀ ≤ w5.heap.size := by have := b2.size; omega
        rcases hd : Y.dec val with ⟨⟨dn, dp, d1, d2, d3, d4⟩, er⟩
        simp only [ysv]
        have J3 := hJ _ _ _ J2 ((Below.refl w5.heap.size w5).alloc (Nat.le_refl _) (.cells #[.string (strB dn), .string (strB dp), .int .i64 d1, .int .i64 d2, .int .i64 d3, .bool d4] 46))
        have b3 := b2.alloc nb5 (.cells #[.string (strB dn), .string (strB dp), .int .i64 d1, .int .i64 d2, .int .i64 d3, .bool d4] 46)
        have V := Box.new w5 #[.string (strB dn), .string (strB dp), .int .i64 d1, .int .i64 d2, .int .i64 d3, .bool d4] 46
        have X3 := X.alloc (.cells #[.string (strB dn), .string (strB dp), .int .i64 d1, .int .i64 d2, .int .i64 d3, .bool d4] 46)
        have HD := Lib.hid hd
        clear hd J2 b2 nb nb5
        have x0 := X3.at 0 (v := .int .i64 key) rfl
        have v0 := V.at 0 (v := .string (strB dn)) rfl
        have v1 := V.at 1 (v := .string (strB dp)) rfl
        have v2 := V.at 2 (v := .int .i64 d1) rfl
        have v3 := V.at 3 (v := .int .i64 d2) rfl
        have v4 := V.at 4 (v := .int .i64 d3) rfl
        have v5 := V.at 5 (v := .bool d4) rfl
        by_cases he : er = 0
        · subst he
          have ht : Y.tells ⟨key, ver, val⟩ := ⟨hk3, by show (Y.dec val).2 = 0; rw [HD.out]⟩
          obtain ⟨fn, tmps, assign, body, hy, hR⟩ := hY _ (key, ⟨dn, dp, d1, d2, d3, d4⟩) _ J3 (Y.lst_room HX.out ht)
          dsimp only [encsY, ysv] at hy
          have EL : Hid (Y.lst (l.take (k + 1)) = Y.lst (l.take k) ++ [(key, ⟨dn, dp, d1, d2, d3, d4⟩)]) := Lib.hid (by rw [Y.lst_yes HX.out ht]; show _ ++ [(key, (Y.dec val).1)] = _; rw [HD.out])
          clear ht
          gi_wp2
          refine hR.mono ?_
          rintro e W3 (⟨rfl, hJ3, hk3⟩ | ⟨rfl, hJx3⟩)
          · gi_wp2
            go_roundw
            case rel => exact ⟨k + 1, by omega, by simp, by rw [EL.out]; exact hJ3, b3.trans hk3⟩
            case measure => simp [intOf]; omega
          · gi_wp2
            refine bodyPost_ret (results_none rfl _ _ _) rfl ?_
            exact ⟨⟨_, rfl⟩, .inr ⟨_, by rw [← EL.out]; exact Y.lst_prefix _ _, hJx3⟩⟩
        · have u1 : (er == 0) = false := beq_eq_false_iff_ne.2 he
          have nt : ¬ Y.tells ⟨key, ver, val⟩ := fun h => he (by have h1 : (Y.dec val).2 = 0 := h.2; rw [HD.out] at h1; exact h1)
          rw [← Y.lst_no HX.out nt] at J3
          clear nt he
          gi_wp2
          refine ⟨fun _ h => (by cases h), ?_⟩
          gi_wp2
          go_roundw
          case rel => exact ⟨k + 1, by omega, by simp, J3, b3⟩
          case measure => simp [intOf]; omega
    · obtain rfl : k = len := by omega
      rw [List.take_of_length_le (by have := HL.out; omega)] at hJs
      gi_wp2
      go_end0
      exact ⟨⟨_, rfl⟩, .inl ⟨_, rfl, hJs⟩⟩
end Go.Proofs.YtmbfldcmiabccaaGreatDoor

namespace Go.Proofs.YtmbfldcmiabccaaGreatDoor
set_option linter.unusedVariables false
set_option linter.unusedSimpArgs false
open Go.RowKit Go.Shelf
attribute [local go_sem] Oper.semAt_some
theorem yserv_in (n : Nat) (A : Option Addr) (len cap : Nat) (w : World) :
    CallsIn Fence.wide n Tryz.prog 83 #[.slice A len cap] w fun e w' => e = .returned (.func (.func 92) #[] #[.pointer (some ⟨w.heap.size, 0, none⟩)]) ∧ w' = w.alloc (.cells #[.slice A len cap] 49) := by
  refine callsIn_of_wp Tryz.func83 rfl trivial ?_ rfl
  simp only [Tryz.ntmps83, List.size_toArray, List.length_cons, List.length_nil, Nat.reduceAdd, Nat.reduceSub, Array.replicate_succ, Array.replicate_zero, List.push_toArray, List.append_toArray, List.nil_append, List.cons_append]
  gi_wp2
  go_ret
  exact ⟨rfl, rfl⟩
theorem yserv_stops (n : Nat) (hn : 1 ≤ n) (Bs n₀ : Nat) (A : Option Addr) (len cap : Nat) (l : List Ent) (hlen : len ≤ 1000000) (hv : ∀ x ∈ l, x.val.length ≤ 140737488351232) (w : World) (hBs : Bs < w.heap.size) (hn₀ : n₀ ≤ w.heap.size)
    (hc : w.cell? ⟨Bs, 0, none⟩ = some (.slice A len cap)) (hr : Rd w n₀ 3 A len (EC l)) :
    SeqStopsK Fence.wide n Tryz.prog 92 #[.pointer (some ⟨Bs, 0, none⟩)] encsY (Below n₀) (fun ys => ys = Y.lst l) (fun pre => pre <+: Y.lst l) (Y.lst l).length w := fun lp J Jx W hW hJ _ hY h0 =>
  yserv1_in n hn lp Bs n₀ A len cap l hlen hv J Jx (fun s W1 W' h hb => hJ s W1 W' none h (grown_none hb) (fun r e => by cases e)) hY W (Nat.le_trans hn₀ hW.size) ((hW.cell (p := ⟨Bs, 0, none⟩) hBs).trans hc) (hr.below (hW.mono hn₀)) h0
theorem box_own {β : Type} (b : Nat) (T : TypeId) (f : β → Array Value) : Own (fun s W => Box W b T (f s)) := fun s X Y row hs hg hrow =>
  (hg.block b hs.lt (fun e' => by obtain ⟨o, ho, hc⟩ := hrow b e'.symm; rw [show X.heap[b]? = _ from hs] at ho; cases ho; cases hc)).trans hs
theorem cells_new (w : World) (cs : List Value) (T : TypeId) : ∀ j u, cs[j]? = some u → (w.alloc (.cells cs.toArray T)).cell? ((⟨w.heap.size, 0, none⟩ : Addr).add j) = some u := fun j u h => by
  have := (Box.new w cs.toArray T).at j (v := u) (by simpa using h)
  by_cases hj : j = 0
  · subst hj
    simpa [Addr.add] using this
  · simpa [Addr.add, hj] using this
theorem ycs_one (x : Svc) : ∀ u ∈ yc x, u.oneCell' = true := by
  intro u hu
  simp only [yc, List.mem_cons, List.not_mem_nil, or_false] at hu
  rcases hu with rfl | rfl | rfl | rfl | rfl | rfl <;> rfl
theorem svcS : SlT Tryz.prog 70 46 (.agg #[.string ⟨#[]⟩, .string ⟨#[]⟩, .int .i64 0, .int .i64 0, .int .i64 0, .bool false]) 6 64 := ⟨Tryz.underlying70, by kernel_rfl, rfl, by omega⟩
set_option maxRecDepth 100000 in
set_option maxHeartbeats 4000000 in
theorem yall_in (n : Nat) (hn : 6 ≤ n) (A : Option Addr) (len cap : Nat) (l : List Ent) (w : World) (h : Rd w w.heap.size 3 A len (EC l)) (hlen : len ≤ 1000000) (hv : ∀ x ∈ l, x.val.length ≤ 140737488351232) :
    CallsIn Fence.wide n Tryz.prog 66 #[.slice A len cap] w fun e W' => ∃ v, e = .returned v ∧ W'.ownsRow w.heap.size 46 6 v (Y.lst l).length (YC ((Y.lst l).map (·.2))) ∧ Below w.heap.size w W' := by
  have h1 : 1 ≤ n := by omega
  have hll : l.length ≤ 1000000 := by have := h.lenE; omega
  have hlst := Y.lst_len l
  obtain ⟨i0, hi, hz0, hz1, hz2⟩ := svcS.parts
  refine callsIn_of_wp_marks Tryz.func66 rfl trivial ?_ rfl
  simp only [Tryz.ntmps66, List.size_toArray, List.length_cons, List.length_nil, Nat.reduceAdd, Nat.reduceSub, Array.replicate_succ, Array.replicate_zero, List.push_toArray, List.append_toArray, List.nil_append, List.cons_append]
  gi_wp2_with fail
  refine ⟨trivial, (yserv_in _ A len cap _).mono ?_⟩
  rintro _ w' ⟨rfl, rfl⟩
  gi_wp2_with fail
  have bO := (Boxed.new w 70 (.slice none 0 0)).alloc (.cells #[.slice A len cap] 49)
  have bA := Boxed.new (w.alloc (.cells #[.slice none 0 0] 70)) 49 (.slice A len cap)
  have hB0 : Below w.heap.size w ((w.alloc (.cells #[.slice none 0 0] 70)).alloc (.cells #[.slice A len cap] 49)) := ((Below.refl _ w).alloc (Nat.le_refl _) _).alloc (by simp) _
  simp only [World.size_alloc] at bA
  have hsz : ((w.alloc (.cells #[.slice none 0 0] 70)).alloc (.cells #[.slice A len cap] 49)).heap.size = w.heap.size + 2 := by simp
  obtain ⟨W0, hW0⟩ : ∃ W0, (w.alloc (.cells #[.slice none 0 0] 70)).alloc (.cells #[.slice A len cap] 49) = W0 := ⟨_, rfl⟩
  rw [hW0] at bO bA hB0 hsz
  rw [hW0]
  clear hW0
  refine wpIn_rangeFunc_ownH rfl h1 (gf := 92) (lb := #[.pointer (some ⟨w.heap.size + 1, 0, none⟩)]) rfl trivial (enters_of Tryz.func92 (by kernel_rfl) rfl)
    (yserv_stops (n - 1) (by omega) (w.heap.size + 1) w.heap.size A len cap l hlen hv W0 (by omega) (by omega) bA.cell (h.below hB0)) belowK_t (belowK_b (by omega)) (Below.refl _ _) (fun _ => rfl)
    (fun pre W => (∃ v, Boxed W w.heap.size 70 v ∧ W.ownsRow w.heap.size 46 6 v pre.length (YC (pre.map (·.2))) ∧ True) ∧ Below w.heap.size w W)
    (fun _ _ _ => False)
    (OwnFrom.and (Own.from (holdsRow_own w.heap.size w.heap.size 70 46 6 (fun pre : List (Int × Svc) => pre.length) (fun pre => YC (pre.map (·.2))) (fun _ _ => True)) _) (ownFrom_below (Nat.le_refl _) (by omega)))
    (fun _ _ _ _ _ hs _ _ => hs)
    ⟨⟨_, bO, World.ownsRow_nil _ _ _ _, trivial⟩, hB0⟩
    (fun x a' W => ∃ Bx, w.heap.size < Bx ∧ Box W Bx 46 #[.string (strB x.2.name), .string (strB x.2.proto), .int .i64 x.2.port, .int .i64 x.2.prio, .int .i64 x.2.wt, .bool x.2.well] ∧ a' = { tmps := #[.slice A len cap, undef, .slice none 0 0, .pointer (some ⟨w.heap.size, 0, none⟩), undef, .pointer (some ⟨Bx, 0, none⟩), .slice A len cap, .func (.func 92) #[] #[.pointer (some ⟨w.heap.size + 1, 0, none⟩)], .int .i64 x.1, ysv x.2, undef, undef, undef, undef, undef], defers := [] })
    (fun x a' _ X Y row hs hg hr => by obtain ⟨Bx, h1, h2, h3⟩ := hs; exact ⟨Bx, h1, box_own Bx 46 (fun (_ : Unit) => #[.string (strB x.2.name), .string (strB x.2.proto), .int .i64 x.2.port, .int .i64 x.2.prio, .int .i64 x.2.wt, .bool x.2.well]) () X Y row h2 hg (fun r e => (hr r e).2), h3⟩)
    ?assign ?body ?done ?stop
  case assign =>
    rintro lp pre ⟨xk, xn, xp, x1, x2, x3, x4⟩ W K ⟨⟨v, hv, hrow, _⟩, hB⟩ hK
    simp only [encsY, ysv]
    gi_wp2
    exact hK _ _ ((KeepsOthers.alloc _ _).from _) ((Below.refl _ W).alloc hB.size _) ⟨⟨v, hv.alloc _, hrow.alloc _, trivial⟩, hB.alloc hB.size _⟩ ⟨W.heap.size, hv.lt, Box.new W _ _, rfl⟩
  case body =>
    rintro lp pre x a' W hl ⟨r, hr⟩ ⟨⟨v, hv, hrow, _⟩, hB⟩ ⟨Bx, hBx, bX, rfl⟩ hlt
    have x0 := bX.at 0 (v := .string (strB x.2.name)) rfl
    have x1 := bX.at 1 (v := .string (strB x.2.proto)) rfl
    have x2 := bX.at 2 (v := .int .i64 x.2.port) rfl
    have x3 := bX.at 3 (v := .int .i64 x.2.prio) rfl
    have x4 := bX.at 4 (v := .int .i64 x.2.wt) rfl
    have x5 := bX.at 5 (v := .bool x.2.well) rfl
    have hc := hv.cell
    gi_wp2_with (gi_at_builtin; refine wpListIn_append_own _ rfl _ _ 70 rfl w.heap.size 46 i0 _ 6 64 svcS.ht hi hz0 hz1 hz2 svcS.hz svcS.hs _ _ _ rfl (hrow.alloc _) ⟨W.heap.size, 0, none⟩ 1 1 (yc x.2) rfl rfl (cells_new _ _ _) (ycs_one x.2) (by unfold maxLen; omega) (by omega) (by have := hB.size; simp; omega) ?_; intro v' w1 hown' hgrow _; obtain ⟨g', cap', rfl⟩ := ownsRow_succ hown'; obtain ⟨hv1, hv2, hr2, hk2, hb2⟩ := hv.appended (by decide) hrow hB.size (Nat.le_refl _) hown' hgrow; have hc1 := hv1.cell; have hf1 := hv1.frozen)
    exact ⟨hk2.from _, hb2, ⟨_, hv2, by simpa [YC_append, YC] using hr2, trivial⟩, hB.trans hb2⟩
  case done =>
    rintro D ys W hD rfl ⟨⟨v, hv, hrow, _⟩, hB⟩ hK
    have hc := hv.cell
    gi_wp2
    refine ⟨by simp, .inl ⟨_, _, rfl, run_takeDeferred hK, ?_⟩⟩
    exact ⟨_, results_tmp rfl _ _ _, v, rfl, ownsRow_putObj hrow _ hK rfl, hB.trans (belowK_b (w := w) (Nat.le_refl _) W D _ _ (by omega) hK rfl rfl)⟩
  case stop =>
    rintro D c pre W _ _ h _
    exact h.elim
theorem yall_any (l : List Ent) (A : Option Addr) (n c : Nat) (w : World) (h : Rd w w.heap.size 3 A n (EC l)) (hn : n ≤ 1000000) (hv : ∀ x ∈ l, x.val.length ≤ 140737488351232) : Calls Tryz.prog 66 #[.slice A n c] w (MadeY (Y.all l) w) := by
  refine ((callsIn_wide (n := 6)).1 (yall_in 6 (by omega) A n c l w h hn hv)).mono ?_
  rintro e w' ⟨v, rfl, ho, hb⟩
  obtain ⟨A', c', rfl⟩ := own_slice ho
  exact ⟨⟨A', _, c', rfl, by rw [Y.all_lst, List.length_map], by rw [Y.all_lst]; exact Rd.of_own ho, (own_cap ho).1, (own_cap ho).2⟩, hb⟩
end Go.Proofs.YtmbfldcmiabccaaGreatDoor

namespace Go.Proofs.YtmbfldcmiabccaaGreatDoor
set_option linter.unusedVariables false
set_option linter.unusedSimpArgs false
open Go.RowKit Go.Shelf
attribute [local go_sem] Oper.semAt_some
theorem strB_bqY (a b : List UInt8) : (strB a == strB b) = decide (a = b) := by
  show (a.toArray == b.toArray) = _
  by_cases h : a = b
  · subst h; simp
  · rw [decide_eq_false h]; exact beq_eq_false_iff_ne.2 fun e => h (by simpa using e)
namespace Y
end Y
end Go.Proofs.YtmbfldcmiabccaaGreatDoor

namespace Go.Proofs.YtmbfldcmiabccaaGreatDoor
set_option linter.unusedVariables false
set_option linter.unusedSimpArgs false
open Go.RowKit
theorem there_some {l : List Ent} {k : Int} {x : Ent} (h : E.get l k = some x) : Y.there l k = true ∧ Y.valOf l k = x.val := by
  unfold Y.there Y.valOf
  rw [h]
  exact ⟨rfl, rfl⟩
theorem there_none {l : List Ent} {k : Int} (h : E.get l k = none) : Y.there l k = false := by
  unfold Y.there
  rw [h]
  rfl
set_option maxHeartbeats 1000000 in
theorem yup_any (l : List Ent) (A : Option Addr) (n c : Nat) (w : World) (h : Rd w w.heap.size 3 A n (EC l)) (hn : n ≤ 1000000) : Calls Tryz.prog 62 #[.slice A n c] w (BoolB (Y.up l) w) := by
  go_enter Tryz.func62, Tryz.ntmps62
  go_wp2_with fail
  refine (get_any l 0 A n c w.heap.size w h (Nat.le_refl _) (by omega)).mono ?_
  rintro _ w1 ⟨rfl, b⟩
  cases hg : E.get l 0 with
  | none =>
    have E : Hid (Y.up l = false) := Lib.hid (by unfold Y.up; rw [there_none hg]; rfl)
    have b2 := b.alloc b.size (.cells #[.int .i64 0, .int .i64 0, .string ⟨#[]⟩] 48)
    clear hg
    simp only [getV]
    go_wp2
    go_ret
    exact ⟨ret_bool E.out.symm, b2⟩
  | some x =>
    obtain ⟨key, ver, val⟩ := x
    have b2 := b.alloc b.size (.cells #[.int .i64 key, .int .i64 ver, .string (strB val)] 48)
    have E : Hid (Y.up l = decide (val = [117, 112])) := Lib.hid (by unfold Y.up; rw [(there_some hg).1, (there_some hg).2]; rfl)
    have s0 : (strB val == strB [117, 112]) = decide (val = [117, 112]) := strB_bqY _ _
    clear hg
    simp only [getV, ev]
    by_cases hv : val = [117, 112]
    · rw [decide_eq_true hv] at s0
      have s1 : (strB val == (⟨#[117, 112]⟩ : ByteArray)) = true := s0
      have s2 : (val == [117, 112]) = true := beq_iff_eq.2 hv
      have Z : Hid (Y.up l = true) := Lib.hid (E.out.trans (decide_eq_true hv))
      clear s0 hv E
      go_wp2
      go_ret
      exact ⟨ret_bool Z.out.symm, b2⟩
    · rw [decide_eq_false hv] at s0
      have s1 : (strB val == (⟨#[117, 112]⟩ : ByteArray)) = false := s0
      have s2 : (val == [117, 112]) = false := beq_eq_false_iff_ne.2 hv
      have Z : Hid (Y.up l = false) := Lib.hid (E.out.trans (decide_eq_false hv))
      clear s0 hv E
      go_wp2
      go_ret
      exact ⟨ret_bool Z.out.symm, b2⟩
end Go.Proofs.YtmbfldcmiabccaaGreatDoor

