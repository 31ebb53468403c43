/- The code's Clone, Equal, Same, Put. -/
import Derived.Test.YtpfkgddcoancnaaECode5
import Derived.Lib.LazyBuf
namespace Go.Proofs.Ytpfkgddcoancnaa
set_option linter.unusedVariables false
set_option linter.unusedSimpArgs false
open Go.RowKit

theorem clone_any (l : List Ent) (A : Option Addr) (n c B : Nat) (w : World) (h : Rd w B 3 A n (EC l)) (hB : B ≤ w.heap.size) (hn : n ≤ 1000000) :
    Calls Try.prog 51 #[.slice A n c] w (Made w l) := by
  have hl := h.lenE
  have HL := Lib.hid hl
  clear hl
  rcases A with _ | a
  · have hnil := Lib.run_eql_slice_nil (P := Try.prog) w 25 59 none n c 0 0 Try.underlying25
    have h0 : n = 0 ∧ l = [] := by
      rcases h.shape with ⟨h1, h2⟩ | ⟨_, b, o, e⟩
      · refine ⟨h1, List.eq_nil_of_length_eq_zero (by have := HL.out; omega)⟩
      · cases e
    obtain ⟨rfl, rfl⟩ := h0
    go_enter Try.func51, Try.ntmps51
    go_wp2
    go_ret
    exact ⟨none, 0, 0, rfl, rfl, World.ownsRow_nil _ _ _ _, Below.refl _ _⟩
  · have hnil := Lib.run_eql_slice_nil (P := Try.prog) w 25 59 (some a) n c 0 0 Try.underlying25
    have hlit : (w.alloc (.cells #[] 59)).ownsRow w.heap.size 59 3 (.slice (some ⟨w.heap.size, 0, none⟩) 0 0) 0 [] := World.ownsRow_lit w #[] 0 (Nat.le_refl _) (by unfold maxLen; omega) rfl
    go_enter Try.func51, Try.ntmps51
    go_wp2_with (at_builtin; refine app_law0 enT rfl (.tmp 5) (.tmp 6) rfl w.heap.size rfl hlit rfl (h.alloc hB _) (EC_one l) (by omega) (by omega) (by simp) ?_; rintro A1 c1 w1 ⟨hown1, hg1, _, _⟩)
    go_ret
    exact ⟨A1, n, c1, rfl, HL.out.symm, hown1, below_app ((Below.refl _ _).alloc (Nat.le_refl _) _) hlit hg1 (Nat.le_refl _) (by simp)⟩

set_option maxHeartbeats 1000000 in
theorem equal_any (l l' : List Ent) (A A' : Option Addr) (n n' c c' B B' : Nat) (w : World) (h : Rd w B 3 A n (EC l)) (h' : Rd w B' 3 A' n' (EC l')) (hn : n * 32 ≤ 140737488351232) (hn' : n' * 32 ≤ 140737488351232) :
    Calls Try.prog 58 #[.slice A n c, .slice A' n' c'] w fun e w' => e = .returned (.bool (decide (l = l'))) ∧ ∃ q, w' = w.drewN q := by
  have hl := h.lenE
  have hl' := h'.lenE
  have HL := Lib.hid hl
  have HL' := Lib.hid hl'
  clear hl hl'
  by_cases hnn : n = n'
  · subst hnn
    go_enter Try.func58, Try.ntmps58
    go_wp2
    go_loopw [13] (fun i wr => ∃ k q : Nat, k ≤ n ∧ i = .int .i64 k ∧ l.take k = l'.take k ∧ wr = w.drewN q) (fun i _ => n - (intOf i).toNat)
    case atStart => exact ⟨0, 0, by omega, rfl, rfl, rfl⟩
    case round =>
      obtain ⟨k, q, hk, rfl, hno, rfl⟩ := hrel
      have HN := Lib.hid hno
      clear hno
      by_cases hlt : k < n
      · obtain ⟨b, o, x, e1, hb, hx, c0, c1, c2⟩ := h.atE hlt
        obtain ⟨b', o', y, e2, hb', hy, d0, d1, d2⟩ := h'.atE hlt
        subst e1 e2
        have HX := Lib.hid hx
        have HY := Lib.hid hy
        clear hx hy
        have hk0 : (0 : Int) ≤ (k : Int) := by omega
        have heq := fun w => eq_ent x y w
        have hgd := guard_ent
        rcases hxy : eqB x y
        · have hne : l ≠ l' := fun e => by
            have h1 := HX.out
            rw [e, HY.out] at h1
            injection h1 with h1
            rw [h1] at hxy
            simp [eqB] at hxy
          have HNE := Lib.hid hne
          rw [hxy] at heq
          clear hne hxy
          go_wp2
          go_quiet (fail)
          go_wp2
          go_ret
          exact ⟨ret_bool (decide_eq_false HNE.out).symm, q + nq, by simp⟩
        · have hex : x = y := of_decide_eq_true hxy
          have HXY := Lib.hid hex
          rw [hxy] at heq
          clear hex hxy
          go_wp2
          go_quiet (fail)
          go_wp2
          go_roundw
          case rel => exact ⟨k + 1, q + nq, by omega, by go_num, by rw [take_more HX.out, take_more HY.out, HN.out, HXY.out], by simp⟩
          case measure => simp [intOf]; omega
      · have he : l = l' := by
          have h1 := HN.out
          rwa [List.take_of_length_le (by have := HL.out; omega), List.take_of_length_le (by have := HL'.out; omega)] at h1
        have HE := Lib.hid he
        clear he
        go_wp2
        go_ret
        exact ⟨ret_bool (decide_eq_true HE.out).symm, q, rfl⟩
  · have t1 : ((n : Int) != (n' : Int)) = true := by rw [bne_iff_ne]; omega
    have hne : l ≠ l' := fun e => by
      have h1 := HL.out
      rw [e, HL'.out] at h1
      exact hnn h1.symm
    have HNE := Lib.hid hne
    clear hne hnn
    go_enter Try.func58, Try.ntmps58
    go_wp2
    go_ret
    exact ⟨ret_bool (decide_eq_false HNE.out).symm, 0, rfl⟩

theorem same_any (l l' : List Ent) (A A' : Option Addr) (n n' c c' B B' : Nat) (w : World) (h : Rd w B 3 A n (EC l)) (h' : Rd w B' 3 A' n' (EC l')) (hn : n * 32 ≤ 140737488351232) (hn' : n' * 32 ≤ 140737488351232) :
    Calls Try.prog 53 #[.slice A n c, .slice A' n' c'] w fun e w' => e = .returned (.bool (decide (l = l'))) ∧ ∃ q, w' = w.drewN q := by
  go_enter Try.func53, Try.ntmps53
  go_wp2_with fail
  refine (equal_any l l' A A' n n' c c' B B' w h h' hn hn').mono ?_
  rintro e w2 ⟨rfl, q, rfl⟩
  go_wp2
  go_ret
  exact ⟨rfl, q, rfl⟩

theorem put_parts {l : List Ent} (h : E.rising l) (x : Ent) : E.put l x = l.filter (fun y => decide (y.key < x.key)) ++ [x] ++ l.filter (fun y => decide (x.key < y.key)) := by
  induction l with
  | nil => rfl
  | cons y r ih =>
    simp only [E.put, List.filter_cons]
    have none_lt : ∀ z : Ent, x.key ≤ z.key → (∀ y ∈ r, z.key < y.key) → r.filter (fun y => decide (y.key < x.key)) = [] := fun z hz hr => List.filter_eq_nil_iff.2 fun y hy => by have := hr y hy; simp; omega
    have all_gt : ∀ z : Ent, x.key ≤ z.key → (∀ y ∈ r, z.key < y.key) → r.filter (fun y => decide (x.key < y.key)) = r := fun z hz hr => List.filter_eq_self.2 fun y hy => by have := hr y hy; simp; omega
    by_cases h1 : y.key < x.key
    · have h2 : ¬ x.key < y.key := by omega
      simp [h1, h2, ih h.2]
    · by_cases h2 : y.key = x.key
      · have h3 : ¬ x.key < y.key := by omega
        rw [if_neg h1, if_pos h2]
        simp only [h1, h3, decide_false, Bool.false_eq_true, if_false]
        rw [none_lt y (by omega) h.1, all_gt y (by omega) h.1]; rfl
      · have h3 : x.key < y.key := by omega
        rw [if_neg h1, if_neg h2]
        simp only [h1, h3, decide_false, decide_true, Bool.false_eq_true, if_false, if_true]
        rw [none_lt y (by omega) h.1, all_gt y (by omega) h.1]; rfl

set_option maxHeartbeats 1000000 in
theorem put_any (l : List Ent) (x : Ent) (A : Option Addr) (n c B : Nat) (w : World) (h : Rd w B 3 A n (EC l)) (hB : B ≤ w.heap.size) (hn : n ≤ 900000) (hrise : E.rising l) :
    Calls Try.prog 61 #[.slice A n c, ev x] w (Made w (E.put l x)) := by
  have hl := h.lenE
  have HL := Lib.hid hl
  have HR := Lib.hid hrise
  clear hl hrise
  have b1 : Below w.heap.size w (w.alloc (.cells #[.int .i64 x.key, .int .i64 x.ver, .string (strB x.val)] 59)) := (Below.refl _ _).alloc (Nat.le_refl _) _
  have X1 := Box.new w #[.int .i64 x.key, .int .i64 x.ver, .string (strB x.val)] 59
  have hs1 : w.heap.size < (w.alloc (.cells #[.int .i64 x.key, .int .i64 x.ver, .string (strB x.val)] 59)).heap.size := by simp
  have h1 := h.alloc hB (.cells #[.int .i64 x.key, .int .i64 x.ver, .string (strB x.val)] 59)
  have HB1 := Lib.hid b1
  clear b1 h
  simp only [ev]
  go_enter Try.func61, Try.ntmps61
  go_wp2_with (at_make; generalize w.alloc (.cells #[.int .i64 x.key, .int .i64 x.ver, .string (strB x.val)] 59) = w2 at *; refine make0_law enT rfl _ _ rfl w2.heap.size rfl rfl (by omega) (by omega) (by omega) (Nat.le_refl _) ?_; intro A1 c1 w3 hown1 hg1)
  have b3 : Below w2.heap.size w2 w3 := (Below.refl _ _).grown hg1 (Nat.le_refl _) (fun k hk => by cases hk)
  clear hg1
  have k3 := (X1.below b3 hs1).at 0 rfl
  have hs3 := b3.size
  refine (add_any w2.heap.size [] l _ _ _ egLt A1 A 0 c1 n c B w3 (h1.below (b3.mono (by omega))) (by omega) hs3 hown1 (by omega) (by omega) (meant_lt (b := w.heap.size) hs1 hs3 k3)).mono ?_
  rintro e w4 ⟨A2, m2, c2, rfl, hm2, hown2, hb4⟩
  have b4 := b3.trans hb4
  have X4 := X1.below b4 hs1
  have y0 := X4.at 0 rfl
  have y1 := X4.at 1 rfl
  have y2 := X4.at 2 rfl
  have hs4 := b4.size
  have hl2 : m2 ≤ n := by rw [hm2, List.nil_append]; have := List.length_filter_le (fun y : Ent => decide (y.key < x.key)) l; have := HL.out; omega
  have HM2 := Lib.hid hm2
  clear b3 hs3 k3 hown1 hb4 hm2
  go_wp2_with (refine push_law (y := x) rfl (.tmp 14) (.tmp 16) rfl w2.heap.size rfl rfl hown2 (by omega) hs4 ?_; rintro A3 c3 w5 hown5 hb5)
  have b5 := b4.trans hb5
  have k5 := (X1.below b5 hs1).at 0 rfl
  have hs5 := b5.size
  clear y0 y1 y2 X4 b4 hb5 hown2
  refine (add_any w2.heap.size _ l _ _ _ egGt A3 A (m2 + 1) c3 n c B w5 (h1.below (b5.mono (by omega))) (by omega) hs5 hown5 (by omega) (by omega) (meant_gt (b := w.heap.size) hs1 hs5 k5)).mono ?_
  rintro e w6 ⟨A4, m4, c4, rfl, hm4, hown6, hb6⟩
  have HM4 := Lib.hid hm4
  have hpp := put_parts HR.out x
  have HPP := Lib.hid hpp
  clear hm4 hpp
  go_wp2
  go_ret
  refine ⟨A4, m4, c4, rfl, ?_, ?_, HB1.out.trans ((b5.trans hb6).mono (by omega))⟩
  · rw [HPP.out]; exact HM4.out
  · rw [HPP.out]; exact own_mono hown6 (by omega)
end Go.Proofs.Ytpfkgddcoancnaa
