/- Package service: may a byte stand in a word, is a text a word, may a service be. -/
import Derived.Test.YtfgpncbcelafoaaYRef2
namespace Go.Proofs.Ytfgpncbcelafoaa
set_option linter.unusedVariables false
set_option linter.unusedSimpArgs false
open Go.RowKit
namespace Y
/-- may a byte stand in a word, wherever -/
def pl (c : Nat) : Prop := (97 ≤ c ∧ c ≤ 122) ∨ (48 ≤ c ∧ c ≤ 57) ∨ c = 45
instance (c : Nat) : Decidable (pl c) := by unfold pl; infer_instance
theorem chr_pl {c i n : Nat} : chr c i n ↔ pl c ∧ (c = 45 → 0 < i ∧ i + 1 < n) := by
  unfold chr pl
  constructor
  · rintro (h | h | ⟨h, h2, h3⟩)
    · exact ⟨Or.inl h, fun e => by omega⟩
    · exact ⟨Or.inr (Or.inl h), fun e => by omega⟩
    · exact ⟨Or.inr (Or.inr h), fun _ => ⟨h2, h3⟩⟩
  · rintro ⟨h | h | h, h2⟩
    · exact Or.inl h
    · exact Or.inr (Or.inl h)
    · exact Or.inr (Or.inr ⟨h, h2 h⟩)
/-- are bytes as far as k of them such -/
def pls (s : List UInt8) (k : Nat) : Prop := ∀ i, i < k → pl (s.getD i 0).toNat
theorem pls_more {s : List UInt8} {k : Nat} {x : UInt8} (hx : s[k]? = some x) (h : pls s k) (hp : pl x.toNat) : pls s (k + 1) := fun i hi => by
  by_cases e : i = k
  · subst e
    rw [List.getD_eq_getElem?_getD, hx]
    exact hp
  · exact h i (by omega)
theorem no_pl {s : List UInt8} {k : Nat} {x : UInt8} (hx : s[k]? = some x) (hp : ¬ pl x.toNat) : ¬ word s := fun h => hp (by
  have hk := (List.getElem?_eq_some_iff.1 hx).1
  have := (chr_pl.1 (h.2.2 k hk)).1
  rwa [List.getD_eq_getElem?_getD, hx] at this)
theorem no_ends {s : List UInt8} {k : Nat} {x : UInt8} (hx : s[k]? = some x) (hp : x.toNat = 45) (hk : k = 0 ∨ k + 1 = s.length) : ¬ word s := fun h => by
  have hl := (List.getElem?_eq_some_iff.1 hx).1
  have h2 := h.2.2 k hl
  rw [List.getD_eq_getElem?_getD, hx] at h2
  have := (chr_pl.1 h2).2 hp
  omega
theorem is_word {s : List UInt8} {x z : UInt8} (h1 : 1 ≤ s.length) (h2 : s.length ≤ 20) (hx : s[0]? = some x) (hz : s[s.length - 1]? = some z) (ex : x.toNat ≠ 45) (ez : z.toNat ≠ 45) (h : pls s s.length) : word s :=
  ⟨h1, h2, fun i hi => chr_pl.2 ⟨h i hi, fun e => by
    constructor
    · rcases Nat.eq_zero_or_pos i with rfl | h0
      · rw [List.getD_eq_getElem?_getD, hx] at e
        exact absurd e ex
      · exact h0
    · by_cases e2 : i + 1 = s.length
      · obtain rfl : i = s.length - 1 := by omega
        rw [List.getD_eq_getElem?_getD, hz] at e
        exact absurd e ez
      · omega⟩⟩
end Y
set_option maxHeartbeats 1000000 in
theorem yplain_at {x : UInt8} {c : Int} {z : Bool} (hc : (x.toNat : Int) = c) (e : decide (Y.pl x.toNat) = z) (w : World) : Calls Try.prog 31 #[.int .u8 c] w (BoolY z w) := by
  have HC := Lib.hid hc
  have hx := x.toNat_lt
  have c0 : 0 ≤ c := by omega
  have c1 : c < 256 := by omega
  clear hc hx
  have HE := Lib.hid e
  clear e
  by_cases a : 97 ≤ c
  · have f1 : decide (97 ≤ c) = true := decide_eq_true a
    by_cases b : c ≤ 122
    · have f2 : decide (c ≤ 122) = true := decide_eq_true b
      have Z : Hid (z = true) := Lib.hid (by rw [← HE.out]; exact decide_eq_true (by unfold Y.pl; have h7 := HC.out; omega))
      go_enter Try.func31, Try.ntmps31
      go_wp2
      go_ret
      exact ⟨ret_bool Z.out.symm, rfl⟩
    · have f2 : decide (c ≤ 122) = false := decide_eq_false b
      have f3 : decide (48 ≤ c) = true := decide_eq_true (by omega)
      have f4 : decide (c ≤ 57) = false := decide_eq_false (by omega)
      have f5 : (c == 45) = false := by rw [beq_eq_false_iff_ne]; omega
      have Z : Hid (z = false) := Lib.hid (by rw [← HE.out]; exact decide_eq_false (by unfold Y.pl; have h7 := HC.out; omega))
      go_enter Try.func31, Try.ntmps31
      go_wp2
      go_ret
      exact ⟨ret_bool Z.out.symm, rfl⟩
  · have f1 : decide (97 ≤ c) = false := decide_eq_false a
    by_cases b : 48 ≤ c
    · have f3 : decide (48 ≤ c) = true := decide_eq_true b
      by_cases d : c ≤ 57
      · have f4 : decide (c ≤ 57) = true := decide_eq_true d
        have Z : Hid (z = true) := Lib.hid (by rw [← HE.out]; exact decide_eq_true (by unfold Y.pl; have h7 := HC.out; omega))
        go_enter Try.func31, Try.ntmps31
        go_wp2
        go_ret
        exact ⟨ret_bool Z.out.symm, rfl⟩
      · have f4 : decide (c ≤ 57) = false := decide_eq_false d
        have f5 : (c == 45) = false := by rw [beq_eq_false_iff_ne]; omega
        have Z : Hid (z = false) := Lib.hid (by rw [← HE.out]; exact decide_eq_false (by unfold Y.pl; have h7 := HC.out; omega))
        go_enter Try.func31, Try.ntmps31
        go_wp2
        go_ret
        exact ⟨ret_bool Z.out.symm, rfl⟩
    · have f3 : decide (48 ≤ c) = false := decide_eq_false b
      by_cases d : c = 45
      · have f5 : (c == 45) = true := by rw [beq_iff_eq]; exact d
        have HD := Lib.hid d
        clear d
        have Z : Hid (z = true) := Lib.hid (by rw [← HE.out]; exact decide_eq_true (by unfold Y.pl; have h7 := HC.out; have := HD.out; omega))
        go_enter Try.func31, Try.ntmps31
        go_wp2
        go_ret
        exact ⟨ret_bool Z.out.symm, rfl⟩
      · have f5 : (c == 45) = false := by rw [beq_eq_false_iff_ne]; exact d
        have Z : Hid (z = false) := Lib.hid (by rw [← HE.out]; exact decide_eq_false (by unfold Y.pl; have h7 := HC.out; omega))
        go_enter Try.func31, Try.ntmps31
        go_wp2
        go_ret
        exact ⟨ret_bool Z.out.symm, rfl⟩
set_option maxHeartbeats 4000000 in
set_option maxRecDepth 20000 in
theorem ywordq_at {l : List UInt8} {z : Bool} (e : decide (Y.word l) = z) (hm : l.length ≤ 140737488351232) (w : World) : Calls Try.prog 13 #[.string (strB l)] w (BoolY z w) := by
  obtain ⟨n, hn⟩ : ∃ n, l.length = n := ⟨_, rfl⟩
  rw [hn] at hm
  have hsz : (strB l).size = n := by rw [strB_size, hn]
  have HN := Lib.hid hn
  have HE := Lib.hid e
  clear hn e
  by_cases h0 : n = 0
  · have h1 := HN.out
    have hl : l = [] := List.eq_nil_of_length_eq_zero (h1.trans h0)
    have q2 : l.isEmpty = true := by rw [hl]; rfl
    have Z : Hid (z = false) := Lib.hid (by rw [← HE.out]; exact decide_eq_false (fun h => by have := h.1; omega))
    clear h1 hl h0
    go_enter Try.func13, Try.ntmps13
    go_wp2
    go_ret
    exact ⟨ret_bool Z.out.symm, rfl⟩
  have hl : l ≠ [] := fun h => h0 (by have := HN.out; rw [h] at this; exact this.symm)
  have q2 : l.isEmpty = false := by cases l with | nil => exact absurd rfl hl | cons a b => rfl
  clear hl
  have n0 : 0 < n := by omega
  clear h0
  by_cases h20 : 20 < n
  · have f1 : decide ((20 : Int) < (n : Int)) = true := decide_eq_true (by omega)
    have f1' : decide (20 < n) = true := decide_eq_true h20
    have Z : Hid (z = false) := Lib.hid (by rw [← HE.out]; exact decide_eq_false (fun h => by have := h.2.1; have := HN.out; omega))
    go_enter Try.func13, Try.ntmps13
    go_wp2
    go_ret
    exact ⟨ret_bool Z.out.symm, rfl⟩
  have f1 : decide ((20 : Int) < (n : Int)) = false := decide_eq_false (by omega)
  have f1' : decide (20 < n) = false := decide_eq_false h20
  have n20 : n ≤ 20 := by omega
  clear h20
  obtain ⟨x, hx⟩ : ∃ x, l[0]? = some x := ⟨_, List.getElem?_eq_getElem (by have := HN.out; omega)⟩
  have IX := str_at (w := w) hx
  simp only [Int.natCast_zero] at IX
  obtain ⟨c, hc⟩ : ∃ c : Int, (x.toNat : Int) = c := ⟨_, rfl⟩
  rw [hc] at IX
  have HX := Lib.hid hx
  have HC := Lib.hid hc
  clear hx hc
  by_cases h45 : c = 45
  · have g1 : (c == 45) = true := by rw [beq_iff_eq]; exact h45
    have Z : Hid (z = false) := Lib.hid (by rw [← HE.out]; exact decide_eq_false (Y.no_ends HX.out (by have := HC.out; omega) (Or.inl rfl)))
    clear h45
    go_enter Try.func13, Try.ntmps13
    go_wp2
    go_ret
    exact ⟨ret_bool Z.out.symm, rfl⟩
  have g1 : (c == 45) = false := by rw [beq_eq_false_iff_ne]; exact h45
  have HC45 : Hid (x.toNat ≠ 45) := Lib.hid (fun h => h45 (by have := HC.out; omega))
  clear h45
  obtain ⟨m, hm1⟩ : ∃ m : Nat, m + 1 = n := ⟨n - 1, by omega⟩
  obtain ⟨y, hy⟩ : ∃ y, l[m]? = some y := ⟨_, List.getElem?_eq_getElem (by have := HN.out; omega)⟩
  have IY := str_at (w := w) hy
  obtain ⟨d, hd⟩ : ∃ d : Int, (y.toNat : Int) = d := ⟨_, rfl⟩
  rw [hd] at IY
  have w1 : wrap64 ((n : Int) - 1) = (m : Int) := by rw [show (n : Int) - 1 = (m : Int) by omega]; unfold wrap64; omega
  have w2 : IntKind.i64.wrap ((n : Int) - 1) = (m : Int) := by rw [show (n : Int) - 1 = (m : Int) by omega]; exact IntWalk.i64_in _ (by omega)
  have HY := Lib.hid hy
  have HD := Lib.hid hd
  have HM := Lib.hid hm1
  clear hy hd hm1
  by_cases h45 : d = 45
  · have g2 : (d == 45) = true := by rw [beq_iff_eq]; exact h45
    have Z : Hid (z = false) := Lib.hid (by rw [← HE.out]; exact decide_eq_false (Y.no_ends HY.out (by have := HD.out; omega) (Or.inr (by have := HM.out; have := HN.out; omega))))
    clear h45
    go_enter Try.func13, Try.ntmps13
    go_wp2
    go_ret
    exact ⟨ret_bool Z.out.symm, rfl⟩
  have g2 : (d == 45) = false := by rw [beq_eq_false_iff_ne]; exact h45
  have HD45 : Hid (y.toNat ≠ 45) := Lib.hid (fun h => h45 (by have := HD.out; omega))
  clear h45
  have YES : Hid (Y.pls l n → Y.word l) := Lib.hid (fun h => Y.is_word (by have := HN.out; omega) (by have := HN.out; omega) HX.out (by rw [HN.out, ← HM.out]; exact HY.out) HC45.out HD45.out (by rw [HN.out]; exact h))
  go_enter Try.func13, Try.ntmps13
  go_wp2
  go_loop [26] (fun v => ∃ k : Nat, k ≤ n ∧ v = .int .i64 (k : Int) ∧ Y.pls l k) (fun v => n - (intOf v).toNat)
  case atStart => exact ⟨0, by omega, rfl, fun i hi => by omega⟩
  case round =>
    obtain ⟨k, hk, rfl, hno⟩ := hrel
    have HNO := Lib.hid hno
    clear hno IX IY
    have hk0 : (0 : Int) ≤ (k : Int) := by omega
    by_cases hlt : k < n
    · have k1 : decide ((k : Int) < (n : Int)) = true := decide_eq_true (by omega)
      obtain ⟨v, hv⟩ : ∃ v, l[k]? = some v := ⟨_, List.getElem?_eq_getElem (by have := HN.out; omega)⟩
      have IV := str_at (w := w) hv
      obtain ⟨u, hu⟩ : ∃ u : Int, (v.toNat : Int) = u := ⟨_, rfl⟩
      rw [hu] at IV
      obtain ⟨pz, hp⟩ : ∃ pz, decide (Y.pl v.toNat) = pz := ⟨_, rfl⟩
      have CP := fun w => yplain_at hu hp w
      have HV := Lib.hid hv
      have HP := Lib.hid hp
      clear hv hu hp
      cases pz
      · have Z : Hid (z = false) := Lib.hid (by rw [← HE.out]; exact decide_eq_false (Y.no_pl HV.out (of_decide_eq_false HP.out)))
        go_wp2_with (go_at_call 31; refine (CP _).mono ?_; rintro _ wb ⟨rfl, rfl⟩)
        go_ret
        exact ⟨ret_bool Z.out.symm, rfl⟩
      · have Z : Hid (Y.pls l (k + 1)) := Lib.hid (Y.pls_more HV.out HNO.out (of_decide_eq_true HP.out))
        go_wp2_with (go_at_call 31; refine (CP _).mono ?_; rintro _ wb ⟨rfl, rfl⟩)
        go_round
        case rel => exact ⟨k + 1, by omega, by go_num, Z.out⟩
        case measure => simp [intOf]; omega
    · have k1 : decide ((k : Int) < (n : Int)) = false := decide_eq_false (by omega)
      have Z : Hid (z = true) := Lib.hid (by rw [← HE.out]; exact decide_eq_true (YES.out (by have := HNO.out; rwa [show k = n by omega] at this)))
      go_wp2
      go_ret
      exact ⟨ret_bool Z.out.symm, rfl⟩
theorem yword_any (l : List UInt8) (hm : l.length ≤ 140737488351232) (w : World) : Calls Try.prog 13 #[.string (strB l)] w (BoolB (decide (Y.word l)) w) := (ywordq_at rfl hm w).mono fun _ _ h => h.below
set_option maxHeartbeats 2000000 in
set_option maxRecDepth 20000 in
theorem yright_any (x : Svc) (hx : YIn x) (w : World) : Calls Try.prog 11 #[ysv x] w (BoolB (decide (Y.right x)) w) := by
  obtain ⟨n, pr, po, pi, wt, we⟩ := x
  obtain ⟨hx1, hx2⟩ := hx
  simp only at hx1 hx2
  simp only [ysv]
  have X := Box.new w #[.string (strB n), .string (strB pr), .int .i64 po, .int .i64 pi, .int .i64 wt, .bool we] 23
  have b := (Below.refl w.heap.size w).alloc (Nat.le_refl _) (.cells #[.string (strB n), .string (strB pr), .int .i64 po, .int .i64 pi, .int .i64 wt, .bool we] 23)
  have x0 := X.at 0 rfl
  have x1 := X.at 1 rfl
  have x2 := X.at 2 rfl
  have x3 := X.at 3 rfl
  have x4 := X.at 4 rfl
  obtain ⟨z, hz⟩ : ∃ z, decide (Y.right ⟨n, pr, po, pi, wt, we⟩) = z := ⟨_, rfl⟩
  rw [hz]
  obtain ⟨z1, hz1⟩ : ∃ z, decide (Y.word n) = z := ⟨_, rfl⟩
  obtain ⟨z2, hz2⟩ : ∃ z, decide (Y.word pr) = z := ⟨_, rfl⟩
  obtain ⟨z3, hz3⟩ : ∃ z, decide (1 ≤ po) = z := ⟨_, rfl⟩
  obtain ⟨z4, hz4⟩ : ∃ z, decide (po ≤ 65535) = z := ⟨_, rfl⟩
  obtain ⟨z5, hz5⟩ : ∃ z, decide (0 ≤ pi) = z := ⟨_, rfl⟩
  obtain ⟨z6, hz6⟩ : ∃ z, decide (pi ≤ 65535) = z := ⟨_, rfl⟩
  obtain ⟨z7, hz7⟩ : ∃ z, decide (0 ≤ wt) = z := ⟨_, rfl⟩
  obtain ⟨z8, hz8⟩ : ∃ z, decide (wt ≤ 65535) = z := ⟨_, rfl⟩
  have ALL : Hid (z = (z1 && (z2 && (z3 && (z4 && (z5 && (z6 && (z7 && z8)))))))) := Lib.hid (by
    rw [← hz, ← hz1, ← hz2, ← hz3, ← hz4, ← hz5, ← hz6, ← hz7, ← hz8]
    rw [Bool.eq_iff_iff]
    simp only [decide_eq_true_iff, Bool.and_eq_true]
    constructor
    · rintro ⟨h1, h2, h3, h4, h5, h6⟩
      exact ⟨h1, h2, h3, h4.2, h5.1, h5.2, h6.1, h6.2⟩
    · rintro ⟨h1, h2, h3, h5, h6, h7, h8, h9⟩
      exact ⟨h1, h2, h3, ⟨Int.le_trans (by decide) h3, h5⟩, ⟨h6, h7⟩, h8, h9⟩)
  have H1 := Lib.hid hz1
  have H2 := Lib.hid hz2
  clear hz hz1 hz2
  go_enter Try.func11, Try.ntmps11
  go_wp2_with fail
  generalize w.alloc (.cells #[.string (strB n), .string (strB pr), .int .i64 po, .int .i64 pi, .int .i64 wt, .bool we] 23) = wa at *
  refine (ywordq_at H1.out (by omega) _).mono ?_
  rintro _ wb ⟨rfl, rfl⟩
  cases z1
  · skip
    have Z : Hid (z = false) := Lib.hid (by rw [ALL.out]; rfl)
    go_wp2
    go_ret
    exact ⟨ret_bool Z.out.symm, b⟩
  go_wp2_with fail
  refine (ywordq_at H2.out (by omega) _).mono ?_
  rintro _ wb ⟨rfl, rfl⟩
  cases z2
  · skip
    have Z : Hid (z = false) := Lib.hid (by rw [ALL.out]; rfl)
    go_wp2
    go_ret
    exact ⟨ret_bool Z.out.symm, b⟩
  cases z3
  · skip
    have Z : Hid (z = false) := Lib.hid (by rw [ALL.out]; rfl)
    go_wp2
    go_ret
    exact ⟨ret_bool Z.out.symm, b⟩
  cases z4
  · skip
    have Z : Hid (z = false) := Lib.hid (by rw [ALL.out]; rfl)
    go_wp2
    go_ret
    exact ⟨ret_bool Z.out.symm, b⟩
  cases z5
  · skip
    have Z : Hid (z = false) := Lib.hid (by rw [ALL.out]; rfl)
    go_wp2
    go_ret
    exact ⟨ret_bool Z.out.symm, b⟩
  cases z6
  · skip
    have Z : Hid (z = false) := Lib.hid (by rw [ALL.out]; rfl)
    go_wp2
    go_ret
    exact ⟨ret_bool Z.out.symm, b⟩
  cases z7
  · skip
    have Z : Hid (z = false) := Lib.hid (by rw [ALL.out]; rfl)
    go_wp2
    go_ret
    exact ⟨ret_bool Z.out.symm, b⟩
  cases z8
  · skip
    have Z : Hid (z = false) := Lib.hid (by rw [ALL.out]; rfl)
    go_wp2
    go_ret
    exact ⟨ret_bool Z.out.symm, b⟩
  have Z : Hid (z = true) := Lib.hid (by rw [ALL.out]; rfl)
  go_wp2
  go_ret
  exact ⟨ret_bool Z.out.symm, b⟩
end Go.Proofs.Ytfgpncbcelafoaa
