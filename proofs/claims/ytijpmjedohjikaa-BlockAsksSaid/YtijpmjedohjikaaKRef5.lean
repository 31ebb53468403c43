/- The document's disks: one that wakes, one that is armed. -/
import Derived.Test.YtijpmjedohjikaaKRef4
import Derived.Test.YtijpmjedohjikaaKBox
namespace Go.Proofs.Ytijpmjedohjikaa
set_option linter.unusedVariables false
set_option linter.unusedSimpArgs false
open Go.RowKit
theorem KRd.of_own {w : World} {base e n c : Nat} {A : Option Addr} {x : Dk} (h : w.ownsRow base e 64 (.slice A n c) n (S x.secs)) (hw : K.wf x) : KRd w ⟨x, A, n, c⟩ := ⟨Rd.of_own h, hw, (own_cap h).1, (own_cap h).2⟩
theorem own_far {w : World} {base e size n c : Nat} {A : Option Addr} {xs : List Value} (h : w.ownsRow base e size (.slice A n c) n xs) {ad : Addr} (hA : A = some ad) : base ≤ ad.block := by
  rcases h.2 with ⟨e1, _⟩ | ⟨g, cap, cur, hv, hb, _⟩
  · subst hA; simp at e1
  · subst hA
    obtain ⟨rfl, rfl⟩ : ad = ⟨g, 0, none⟩ ∧ c = cap := by simpa using hv
    exact hb
theorem own3 {w : World} {base e size n bz : Nat} {v : Value} {xs : List Value} (h : w.ownsRow base e size v n xs) (hz : bz < base) (ob : Obj) (v0 v1 v2 : Value) :
    ((((w.alloc ob).setCell ⟨bz, 0, none⟩ v0).setCell ⟨bz, 1, none⟩ v1).setCell ⟨bz, 2, none⟩ v2).ownsRow base e size v n xs :=
  ownsRow_setCell_below (ownsRow_setCell_below (ownsRow_setCell_below (h.alloc ob) (by show bz < _; omega) _) (by show bz < _; omega) _) (by show bz < _; omega) _
set_option maxHeartbeats 1000000 in
theorem rkwake_any (u : Kv) (w : World) (h : KRd w u) :
    Calls Try.prog 20 #[kval u] w (DiskR (K.wake u.x).1 (K.wake u.x).2 w) := by
  obtain ⟨⟨l, f, o⟩, A, n, c⟩ := u
  have hw := h.2.1
  have hlen := h.len
  simp only at hlen
  simp only [kval]
  have X := (Box.new w #[.slice A n c, .int .i64 f, .bool o] 24).below ((Below.refl _ _).alloc (Nat.le_refl _) (.cells #[.slice none 0 0, .int .i64 0, .bool false] 24)) (by simp)
  have Z := Box.new (w.alloc (.cells #[.slice A n c, .int .i64 f, .bool o] 24)) #[.slice none 0 0, .int .i64 0, .bool false] 24
  have b := ((Below.refl w.heap.size w).alloc (Nat.le_refl _) (.cells #[.slice A n c, .int .i64 f, .bool o] 24)).alloc (by simp) (.cells #[.slice none 0 0, .int .i64 0, .bool false] 24)
  rw [show (w.alloc (.cells #[.slice A n c, .int .i64 f, .bool o] 24)).heap.size = w.heap.size + 1 by simp] at Z
  have hR := rkright_any ⟨⟨l, f, o⟩, A, n, c⟩ _ (h.belowH b)
  have h0 := h
  replace h := h.belowH b
  simp only [kval] at hR
  go_enter Try.func20, Try.ntmps20
  go_wp2_with fail
  refine hR.mono ?_
  rintro _ w2 ⟨rfl, b2⟩
  replace h := h.belowH b2
  have hlt : w.heap.size + 1 < w2.heap.size := by have := b2.size; simp at this; omega
  replace X := X.below b2 (by simp; omega)
  replace Z := Z.below b2 (by simp)
  replace b := b.trans (b2.mono b.size)
  have hs2 : w.heap.size ≤ w2.heap.size := b.size
  clear b2 hR
  have x0 := X.at 0 rfl
  have x1 := X.at 1 rfl
  have x2 := X.at 2 rfl
  have z0 := Z.at 0 rfl
  have z1 := Z.at 1 rfl
  have z2 := Z.at 2 rfl
  have zc := Z.cold
  have H := Lib.hid h
  have HW := Lib.hid hw
  clear h hw
  by_cases r : K.right ⟨l, f, o⟩
  · have hn : n ≤ 1000 := by have := r.1; simp only at this; omega
    have r' := decide_eq_true r
    have HLEN := Lib.hid hlen
    clear hlen
    have ew : K.wake ⟨l, f, o⟩ = (⟨l, -1, false⟩, 0) := by unfold K.wake; rw [if_neg (Classical.not_not.2 r)]
    rw [r']
    have EW := Lib.hid ew
    clear r r' ew
    go_wp2_with (go_at_call 9; refine (rkcopy_any ⟨⟨l, f, o⟩, A, n, c⟩ _ H.out hn).mono ?_; rintro e w3 ⟨⟨A3, c3, rfl, hown⟩, b3⟩; replace X := X.belowH b3; replace Z := Z.belowH b3; replace b := b.trans (b3.mono b.size); have hs3 := b3.size; clear b3; have Y := Box.new w3 #[.slice A3 n c3, .int .i64 f, .bool o] 24; have b4 := b.alloc (by omega) (.cells #[.slice A3 n c3, .int .i64 f, .bool o] 24); have z0 := fun ob => (Z.alloc ob).at 0 rfl; have z1 := fun ob => (Z.alloc ob).at 1 rfl; have z2 := fun ob => (Z.alloc ob).at 2 rfl; have zc := fun ob => (Z.alloc ob).cold)
    have Z2 := (((Z.alloc (.cells #[.slice A3 n c3, .int .i64 (-1), .bool false] 24)).set 0 (.slice A3 n c3)).set 1 (.int .i64 (-1))).set 2 (.bool false)
    have q0 := Z2.at 0 rfl
    have q1 := Z2.at 1 rfl
    have q2 := Z2.at 2 rfl
    have b5 := below_set (o := 2) (below_set (o := 1) (below_set (o := 0) (b.alloc (show w.heap.size ≤ w3.heap.size by omega) (.cells #[.slice A3 n c3, .int .i64 (-1), .bool false] 24)) (show w.heap.size ≤ w.heap.size + 1 by omega) (.slice A3 n c3)) (show w.heap.size ≤ w.heap.size + 1 by omega) (.int .i64 (-1))) (show w.heap.size ≤ w.heap.size + 1 by omega) (.bool false)
    refine bodyPost_ret (v := .tuple #[.agg #[.slice A3 n c3, .int .i64 (-1), .bool false], .int .i64 0]) (by simp [results, Try.results20, go_sem, q0, q1, q2]; try rfl) rfl (by rw [EW.out]; refine ⟨⟨A3, n, c3, rfl, ?_, fun _ bk ok hA => by have h9 : w2.heap.size ≤ bk := own_far hown hA; omega⟩, b5⟩; exact KRd.of_own (own3 hown (show w.heap.size + 1 < w2.heap.size by omega) (.cells #[.slice A3 n c3, .int .i64 (-1), .bool false] 24) (.slice A3 n c3) (.int .i64 (-1)) (.bool false)) HW.out)
  · have r' := decide_eq_false r
    clear hlen
    have ew : K.wake ⟨l, f, o⟩ = (⟨l, f, o⟩, 1) := by unfold K.wake; rw [if_pos r]
    rw [r']
    have EW := Lib.hid ew
    clear r r' ew
    go_wp2
    have Z2 := ((Z.set 0 (.slice A n c)).set 1 (.int .i64 f)).set 2 (.bool o)
    have q0 := Z2.at 0 rfl
    have q1 := Z2.at 1 rfl
    have q2 := Z2.at 2 rfl
    refine bodyPost_ret (v := .tuple #[.agg #[.slice A n c, .int .i64 f, .bool o], .int .i64 1]) (by simp [results, Try.results20, go_sem, q0, q1, q2]; try rfl) rfl (by
      have b5 := below_set (o := 2) (below_set (o := 1) (below_set (o := 0) b (show w.heap.size ≤ w.heap.size + 1 by omega) (.slice A n c)) (show w.heap.size ≤ w.heap.size + 1 by omega) (.int .i64 f)) (show w.heap.size ≤ w.heap.size + 1 by omega) (.bool o)
      rw [EW.out]
      exact ⟨⟨A, n, c, rfl, h0.belowH b5, fun h => absurd (show (1 : Int) = 0 from h) (by decide)⟩, b5⟩)
set_option maxHeartbeats 1000000 in
theorem rkarm_any (u : Kv) (m : Int) (w : World) (h : KRd w u) (hn : u.n ≤ 1000) :
    Calls Try.prog 15 #[kval u, .int .i64 m] w (DiskR (K.arm u.x m).1 (K.arm u.x m).2 w) := by
  obtain ⟨⟨l, f, o⟩, A, n, c⟩ := u
  have hw := h.2.1
  simp only at hn
  simp only [kval]
  have X := (Box.new w #[.slice A n c, .int .i64 f, .bool o] 24).below ((Below.refl _ _).alloc (Nat.le_refl _) (.cells #[.slice none 0 0, .int .i64 0, .bool false] 24)) (by simp)
  have Z := Box.new (w.alloc (.cells #[.slice A n c, .int .i64 f, .bool o] 24)) #[.slice none 0 0, .int .i64 0, .bool false] 24
  have b := ((Below.refl w.heap.size w).alloc (Nat.le_refl _) (.cells #[.slice A n c, .int .i64 f, .bool o] 24)).alloc (by simp) (.cells #[.slice none 0 0, .int .i64 0, .bool false] 24)
  rw [show (w.alloc (.cells #[.slice A n c, .int .i64 f, .bool o] 24)).heap.size = w.heap.size + 1 by simp] at Z
  have hR := rkright_any ⟨⟨l, f, o⟩, A, n, c⟩ _ (h.belowH b)
  have h0 := h
  replace h := h.belowH b
  simp only [kval] at hR
  go_enter Try.func15, Try.ntmps15
  go_wp2_with fail
  refine hR.mono ?_
  rintro _ w2 ⟨rfl, b2⟩
  replace h := h.belowH b2
  have hlt : w.heap.size + 1 < w2.heap.size := by have := b2.size; simp at this; omega
  replace X := X.below b2 (by simp; omega)
  replace Z := Z.below b2 (by simp)
  replace b := b.trans (b2.mono b.size)
  have hs2 : w.heap.size ≤ w2.heap.size := b.size
  clear b2 hR
  have x0 := X.at 0 rfl
  have x1 := X.at 1 rfl
  have x2 := X.at 2 rfl
  have z0 := Z.at 0 rfl
  have z1 := Z.at 1 rfl
  have z2 := Z.at 2 rfl
  have zc := Z.cold
  have H := Lib.hid h
  have HW := Lib.hid hw
  clear h hw
  by_cases r : K.right ⟨l, f, o⟩
  · have r' := decide_eq_true r
    rw [r']
    cases o
    · by_cases m1 : m < -1
      · have EW : Hid (K.arm ⟨l, f, false⟩ m = (⟨l, f, false⟩, 1)) := Lib.hid (by unfold K.arm; rw [if_neg (Classical.not_not.2 r)]; simp [m1])
        clear r r'
        go_wp2
        have Z2 := ((Z.set 0 (.slice A n c)).set 1 (.int .i64 f)).set 2 (.bool false)
        have q0 := Z2.at 0 rfl
        have q1 := Z2.at 1 rfl
        have q2 := Z2.at 2 rfl
        refine bodyPost_ret (v := .tuple #[.agg #[.slice A n c, .int .i64 f, .bool false], .int .i64 1]) (by simp [results, Try.results15, go_sem, q0, q1, q2]; try rfl) rfl (by
          have b5 := below_set (o := 2) (below_set (o := 1) (below_set (o := 0) b (show w.heap.size ≤ w.heap.size + 1 by omega) (.slice A n c)) (show w.heap.size ≤ w.heap.size + 1 by omega) (.int .i64 f)) (show w.heap.size ≤ w.heap.size + 1 by omega) (.bool false)
          rw [EW.out]
          exact ⟨⟨A, n, c, rfl, h0.belowH b5, fun h => absurd (show (1 : Int) = 0 from h) (by decide)⟩, b5⟩)
      · have EW : Hid (K.arm ⟨l, f, false⟩ m = (⟨l, m, false⟩, 0)) := Lib.hid (by unfold K.arm; rw [if_neg (Classical.not_not.2 r)]; simp [m1])
        clear r r'
        go_wp2_with (go_at_call 9; refine (rkcopy_any ⟨⟨l, f, false⟩, A, n, c⟩ _ H.out hn).mono ?_; rintro e w3 ⟨⟨A3, c3, rfl, hown⟩, b3⟩; replace X := X.belowH b3; replace Z := Z.belowH b3; replace b := b.trans (b3.mono b.size); have hs3 := b3.size; clear b3; have Y := Box.new w3 #[.slice A3 n c3, .int .i64 f, .bool false] 24; have b4 := b.alloc (by omega) (.cells #[.slice A3 n c3, .int .i64 f, .bool false] 24); have z0 := fun ob => (Z.alloc ob).at 0 rfl; have z1 := fun ob => (Z.alloc ob).at 1 rfl; have z2 := fun ob => (Z.alloc ob).at 2 rfl; have zc := fun ob => (Z.alloc ob).cold)
        have Z2 := (((Z.alloc (.cells #[.slice A3 n c3, .int .i64 m, .bool false] 24)).set 0 (.slice A3 n c3)).set 1 (.int .i64 m)).set 2 (.bool false)
        have q0 := Z2.at 0 rfl
        have q1 := Z2.at 1 rfl
        have q2 := Z2.at 2 rfl
        have b5 := below_set (o := 2) (below_set (o := 1) (below_set (o := 0) (b.alloc (show w.heap.size ≤ w3.heap.size by omega) (.cells #[.slice A3 n c3, .int .i64 m, .bool false] 24)) (show w.heap.size ≤ w.heap.size + 1 by omega) (.slice A3 n c3)) (show w.heap.size ≤ w.heap.size + 1 by omega) (.int .i64 m)) (show w.heap.size ≤ w.heap.size + 1 by omega) (.bool false)
        refine bodyPost_ret (v := .tuple #[.agg #[.slice A3 n c3, .int .i64 m, .bool false], .int .i64 0]) (by simp [results, Try.results15, go_sem, q0, q1, q2]; try rfl) rfl (by rw [EW.out]; refine ⟨⟨A3, n, c3, rfl, ?_, fun _ bk ok hA => by have h9 : w2.heap.size ≤ bk := own_far hown hA; omega⟩, b5⟩; exact KRd.of_own (own3 hown (show w.heap.size + 1 < w2.heap.size by omega) (.cells #[.slice A3 n c3, .int .i64 m, .bool false] 24) (.slice A3 n c3) (.int .i64 m) (.bool false)) HW.out)
    · have EW : Hid (K.arm ⟨l, f, true⟩ m = (⟨l, f, true⟩, 9)) := Lib.hid (by unfold K.arm; rw [if_neg (Classical.not_not.2 r)]; simp)
      clear r r'
      go_wp2
      have Z2 := ((Z.set 0 (.slice A n c)).set 1 (.int .i64 f)).set 2 (.bool true)
      have q0 := Z2.at 0 rfl
      have q1 := Z2.at 1 rfl
      have q2 := Z2.at 2 rfl
      refine bodyPost_ret (v := .tuple #[.agg #[.slice A n c, .int .i64 f, .bool true], .int .i64 9]) (by simp [results, Try.results15, go_sem, q0, q1, q2]; try rfl) rfl (by
        have b5 := below_set (o := 2) (below_set (o := 1) (below_set (o := 0) b (show w.heap.size ≤ w.heap.size + 1 by omega) (.slice A n c)) (show w.heap.size ≤ w.heap.size + 1 by omega) (.int .i64 f)) (show w.heap.size ≤ w.heap.size + 1 by omega) (.bool true)
        rw [EW.out]
        exact ⟨⟨A, n, c, rfl, h0.belowH b5, fun h => absurd (show (9 : Int) = 0 from h) (by decide)⟩, b5⟩)
  · have r' := decide_eq_false r
    have ew : K.arm ⟨l, f, o⟩ m = (⟨l, f, o⟩, 1) := by unfold K.arm; rw [if_pos r]
    rw [r']
    have EW := Lib.hid ew
    clear r r' ew
    go_wp2
    have Z2 := ((Z.set 0 (.slice A n c)).set 1 (.int .i64 f)).set 2 (.bool o)
    have q0 := Z2.at 0 rfl
    have q1 := Z2.at 1 rfl
    have q2 := Z2.at 2 rfl
    refine bodyPost_ret (v := .tuple #[.agg #[.slice A n c, .int .i64 f, .bool o], .int .i64 1]) (by simp [results, Try.results15, go_sem, q0, q1, q2]; try rfl) rfl (by
      have b5 := below_set (o := 2) (below_set (o := 1) (below_set (o := 0) b (show w.heap.size ≤ w.heap.size + 1 by omega) (.slice A n c)) (show w.heap.size ≤ w.heap.size + 1 by omega) (.int .i64 f)) (show w.heap.size ≤ w.heap.size + 1 by omega) (.bool o)
      rw [EW.out]
      exact ⟨⟨A, n, c, rfl, h0.belowH b5, fun h => absurd (show (1 : Int) = 0 from h) (by decide)⟩, b5⟩)
end Go.Proofs.Ytijpmjedohjikaa
