/- The code's Get and Put on views. -/
import Derived.Test.YtpfkgddcoancnaaVC2
namespace Go.Proofs.Ytpfkgddcoancnaa
set_option linter.unusedVariables false
set_option linter.unusedSimpArgs false
open Go.RowKit

theorem vfound_get {l : List Nv} {node i : Int} (h : FoundN (fun y => y == node) l i) : (i = -1 ∧ V.get (l.map Nv.nm) node = none) ∨ ∃ (k : Nat) (x : Nv), i = k ∧ l[k]? = some x ∧ V.get (l.map Nv.nm) node = some x.v.s := by
  rcases h with ⟨rfl, h⟩ | ⟨k, x, rfl, hx, he, hno⟩
  · exact Or.inl ⟨rfl, vget_none fun y hy => by simpa using h y hy⟩
  · exact Or.inr ⟨k, x, rfl, hx, vget_at hx (by simpa using he) fun y hy => by simpa using hno y hy⟩

set_option maxHeartbeats 2000000 in
set_option maxRecDepth 20000 in
theorem vget_any (U : Vw) (node : Int) (w : World) (h : VRd w U) (hn : U.n ≤ 1000) (hf : VFit U) : Calls Try.prog 10 #[vval U, .int .i64 node] w (MadeG w (V.get U.view node)) := by
  obtain ⟨l, A, n, c⟩ := U
  have hl := h.len
  simp only at hn hl hf
  have HL := Lib.hid hl
  have HF := Lib.hid hf
  clear hl hf
  simp only [vval]
  have b1 : Below w.heap.size w (w.alloc (.cells #[.int .i64 node] 3)) := (Below.refl _ _).alloc (Nat.le_refl _) _
  have x1 := Box.new w #[.int .i64 node] 3
  have hse : (w.alloc (.cells #[.int .i64 node] 3)).heap.size = w.heap.size + 1 := by simp
  have b2 := b1.alloc b1.size (.cells #[.int .i64 0, .int .i64 0, .slice none 0 0] 27)
  have x2 := Box.new (w.alloc (.cells #[.int .i64 node] 3)) #[.int .i64 0, .int .i64 0, .slice none 0 0] 27
  rw [hse] at x2
  have hs2 : w.heap.size + 1 < ((w.alloc (.cells #[.int .i64 node] 3)).alloc (.cells #[.int .i64 0, .int .i64 0, .slice none 0 0] 27)).heap.size := by simp
  have k1 := (x1.alloc (.cells #[.int .i64 0, .int .i64 0, .slice none 0 0] 27)).at 0 rfl
  have h2 := (h.allocH (.cells #[.int .i64 node] 3)).allocH (.cells #[.int .i64 0, .int .i64 0, .slice none 0 0] 27)
  have HB2 := Lib.hid b2
  have HX2 := Lib.hid x2
  have HK1 := Lib.hid k1
  clear b1 x1 hse b2 x2 k1 h
  go_enter Try.func10, Try.ntmps10
  go_wp2_with fail
  generalize (w.alloc (.cells #[.int .i64 node] 3)).alloc (.cells #[.int .i64 0, .int .i64 0, .slice none 0 0] 27) = w2 at *
  refine (vidx_any ⟨l, A, n, c⟩ (fun y => y == node) _ _ vegGet w2 h2 hn (vmeant_get (b := w.heap.size) (by omega) (Nat.le_refl _) HK1.out)).mono ?_
  rintro e w3 ⟨⟨i, rfl, hfo⟩, hb3⟩
  have X3 := HX2.out.below hb3 hs2
  have b3 : Below w.heap.size w w3 := HB2.out.trans (hb3.mono (by omega))
  have h3 := h2.belowH hb3
  have y0 := X3.at 0 rfl
  have y1 := X3.at 1 rfl
  have y2 := X3.at 2 rfl
  have yf := X3.cold
  have z := X3.lt
  clear hb3 h2 HB2 HX2 HK1
  rcases vfound_get hfo with ⟨rfl, hg⟩ | ⟨k, x, rfl, hx, hg⟩
  · have HG := Lib.hid hg
    clear hg hfo
    go_wp2
    refine bodyPost_ret (v := .tuple #[sv ⟨⟨0, 0, []⟩, none, 0, 0⟩, .bool false]) (by simp [results, Try.results10, go_sem, y0, y1, y2, z, sv]; try rfl) rfl ?_
    refine ⟨⟨⟨0, 0, []⟩, none, 0, 0⟩, ?_, ?_, Rd.zero _ _ _ _, ?_⟩
    · rw [show V.get (Vw.view ⟨l, A, n, c⟩) node = none from HG.out]; rfl
    · rw [show V.get (Vw.view ⟨l, A, n, c⟩) node = none from HG.out]; rfl
    · repeat (first | (with_reducible exact b3) | (with_reducible refine below_set ?_ (by omega) _))
  · have hkn : k < n := by have h9 : k < l.length := (List.getElem?_eq_some_iff.1 hx).1; have := HL.out; omega
    obtain ⟨b, o, x', e1, hb, hx', hsr, c0, c1, c2, c3⟩ := h3.at hkn
    simp only at e1 hx'
    obtain rfl : x' = x := by rw [hx] at hx'; simpa using hx'.symm
    subst e1
    have HG := Lib.hid hg
    have hfx := HF.out x' (List.mem_of_getElem? hx)
    clear hg hfo hx hx'
    have hk0 : (0 : Int) ≤ (k : Int) := by omega
    go_wp2_with fail
    refine (scopy_any x'.v _ hsr (by omega)).mono ?_
    rintro e w4 ⟨⟨s2, A2, n2, c2'⟩, rfl, hs2e, hown, hb4⟩
    simp only at hs2e
    subst hs2e
    have X4 := X3.below hb4 z
    have u0 := X4.at 0 rfl
    have u1 := X4.at 1 rfl
    have u2 := X4.at 2 rfl
    have uf := X4.cold
    have uz := X4.lt
    have b4 := b3.trans (hb4.mono b3.size)
    have hown' : w4.ownsRow w3.heap.size 59 3 (.slice A2 n2 c2') n2 (EC x'.v.s.apps) := hown
    clear hb4 y0 y1 y2 yf c0 c1 c2 c3 hown
    simp only [sv]
    go_wp2
    refine bodyPost_ret (v := .tuple #[sv ⟨x'.v.s, A2, n2, c2'⟩, .bool true]) (by simp [results, Try.results10, go_sem, u0, u1, u2, uz, sv]; try rfl) rfl ?_
    refine ⟨⟨x'.v.s, A2, n2, c2'⟩, ?_, ?_, ?_, ?_⟩
    · rw [show V.get (Vw.view ⟨l, some ⟨b, o, none⟩, n, c⟩) node = some x'.v.s from HG.out]; rfl
    · rw [show V.get (Vw.view ⟨l, some ⟨b, o, none⟩, n, c⟩) node = some x'.v.s from HG.out]; rfl
    · refine Rd.of_own (base := w3.heap.size) (e := 59) (c := c2') ?_
      show World.ownsRow _ _ _ 3 (.slice A2 n2 c2') n2 (EC x'.v.s.apps)
      repeat (first | (with_reducible exact hown') | (with_reducible refine own_set ?_ (by omega) _))
    · repeat (first | (with_reducible exact b4) | (with_reducible refine below_set ?_ (by omega) _))

theorem V.put_parts {l : List Nm} (h : V.rising l) (k : Int) (s : St) : V.put l k s = l.filter (fun y => decide (y.node < k)) ++ [⟨k, s⟩] ++ l.filter (fun y => decide (k < y.node)) := by
  induction l with
  | nil => rfl
  | cons y r ih =>
    simp only [V.put, List.filter_cons]
    have none_lt : ∀ z : Nm, k ≤ z.node → (∀ y ∈ r, z.node < y.node) → r.filter (fun y => decide (y.node < k)) = [] := fun z hz hr => List.filter_eq_nil_iff.2 fun y hy => by have := hr y hy; simp; omega
    have all_gt : ∀ z : Nm, k ≤ z.node → (∀ y ∈ r, z.node < y.node) → r.filter (fun y => decide (k < y.node)) = r := fun z hz hr => List.filter_eq_self.2 fun y hy => by have := hr y hy; simp; omega
    by_cases h1 : y.node < k
    · have h2 : ¬ k < y.node := by omega
      simp [h1, h2, ih h.2]
    · by_cases h2 : y.node = k
      · have h3 : ¬ k < y.node := by omega
        rw [if_neg h1, if_pos h2]
        simp only [h1, h3, decide_false, Bool.false_eq_true, if_false]
        rw [none_lt y (by omega) h.1, all_gt y (by omega) h.1]; rfl
      · have h3 : k < y.node := by omega
        rw [if_neg h1, if_neg h2]
        simp only [h1, h3, decide_false, decide_true, Bool.false_eq_true, if_false, if_true]
        rw [none_lt y (by omega) h.1, all_gt y (by omega) h.1]; rfl
theorem filter_view (l : List Nv) (q : Int → Bool) : (l.filter fun x => q x.node).map Nv.nm = (l.map Nv.nm).filter fun y => q y.node := by
  rw [List.filter_map]; rfl

set_option maxHeartbeats 4000000 in
set_option maxRecDepth 20000 in
theorem vput_any (U : Vw) (node : Int) (v : Sv) (w : World) (h : VRd w U) (hn : U.n ≤ 900) (hf : VFit U) (hv : SRd w v) (hvn : v.n ≤ 4000) (hrise : V.rising U.view) : Calls Try.prog 26 #[vval U, .int .i64 node, sv v] w (MadeV w (V.put U.view node v.s)) := by
  obtain ⟨⟨g, t, tl⟩, At, nt, ct⟩ := v
  obtain ⟨l, A, n, c⟩ := U
  have hl := h.len
  have HPP := Lib.hid (V.put_parts hrise node ⟨g, t, tl⟩)
  simp only at hn hvn hl
  have HL := Lib.hid hl
  clear hl hrise
  simp only [vval, sv]
  have b1 : Below w.heap.size w (w.alloc (.cells #[.int .i64 node] 3)) := (Below.refl _ _).alloc (Nat.le_refl _) _
  have x1 := Box.new w #[.int .i64 node] 3
  have hse : (w.alloc (.cells #[.int .i64 node] 3)).heap.size = w.heap.size + 1 := by simp
  have b2 := b1.alloc b1.size (.cells #[.int .i64 g, .int .i64 t, .slice At nt ct] 27)
  have x2 := Box.new (w.alloc (.cells #[.int .i64 node] 3)) #[.int .i64 g, .int .i64 t, .slice At nt ct] 27
  rw [hse] at x2
  have hs2 : w.heap.size + 1 < ((w.alloc (.cells #[.int .i64 node] 3)).alloc (.cells #[.int .i64 g, .int .i64 t, .slice At nt ct] 27)).heap.size := by simp
  have X1 := x1.alloc (.cells #[.int .i64 g, .int .i64 t, .slice At nt ct] 27)
  have hv2 := (hv.allocH (.cells #[.int .i64 node] 3)).allocH (.cells #[.int .i64 g, .int .i64 t, .slice At nt ct] 27)
  have HB2 := Lib.hid b2
  clear b1 x1 hse b2
  go_enter Try.func26, Try.ntmps26
  go_wp2_with (at_make; generalize (w.alloc (.cells #[.int .i64 node] 3)).alloc (.cells #[.int .i64 g, .int .i64 t, .slice At nt ct] 27) = w2 at *; refine make0_law nmT rfl _ _ rfl w2.heap.size rfl rfl (by omega) (by omega) (by omega) (Nat.le_refl _) ?_; intro A1 c1 w3 hown1 hg1)
  have b3 : Below w2.heap.size w2 w3 := (Below.refl _ _).grown hg1 (Nat.le_refl _) (fun k hk => by cases hk)
  clear hg1
  have k3 := (X1.below b3 (by omega)).at 0 rfl
  have hs3 := b3.size
  have b3w : Below w.heap.size w w3 := HB2.out.trans (b3.mono (by omega))
  refine (vadd_any w2.heap.size [] l (fun y => decide (y < node)) _ _ vegLt A1 A 0 c1 n c w w3 h (by omega) b3w hs3 ⟨hown1, by simp⟩ (by omega) (by omega) hf (vmeant_lt (b := w.heap.size) (by omega) hs3 k3)).mono ?_
  rintro e w4 ⟨⟨O, A2, m2, c2⟩, rfl, hO, hown2, hb4⟩
  have b4 := b3.trans hb4
  have X4 := X1.below b4 (by omega)
  have Y4 := x2.below b4 hs2
  have g0 := X4.at 0 rfl
  have y0 := Y4.at 0 rfl
  have y1 := Y4.at 1 rfl
  have y2 := Y4.at 2 rfl
  have hs4 := b4.size
  have hv4 := hv2.belowH b4
  have hl2 : m2 ≤ n := by
    have h1 := hown2.len
    have h2 := congrArg List.length hO
    rw [List.map_nil, List.nil_append, show Vw.view ⟨O, A2, m2, c2⟩ = O.map Nv.nm from rfl, List.length_map, List.length_map] at h2
    have := List.length_filter_le (fun x : Nv => decide (x.node < node)) l
    have := HL.out
    simp only at h1
    omega
  have HO := Lib.hid hO
  clear b3 hs3 k3 hown1 hb4 hO hv2 b3w
  simp only [vval]
  go_wp2
  refine wp_region_held_drew (S := (fun w' => w'.cell? ⟨w.heap.size, 0, none⟩ = some (.int .i64 node) ∧ w'.cell? ⟨w.heap.size + 1, 0, none⟩ = some (.int .i64 g) ∧ w'.cell? ⟨w.heap.size + 1, 1, none⟩ = some (.int .i64 t) ∧ w'.cell? ⟨w.heap.size + 1, 2, none⟩ = some (.slice At nt ct))) (by kernel_rfl) (by exact ⟨g0, y0, y1, y2⟩) (fun hHeld0 => ?_)
  refine wpAnyH_take (i := 0) (oi := ⟨some 16, _, _, _, _, _⟩) (v := ?_) rfl (by kernel_rfl) (by kernel_rfl) (by kernel_rfl) (fun _ _ _ h => h) (Or.inl ⟨by rfl, ?_⟩) hHeld0 ?_
  rotate_left
  · (intro w' hSw; (try dsimp only at hSw); go_simp; all_goals (with_reducible rfl))
  try simp only [Act.put, List.setIfInBounds_toArray, List.set_cons_zero, List.set_cons_succ]
  refine wpAnyH_take (i := 1) (oi := ⟨some 17, _, _, _, _, _⟩) (v := ?_) rfl (by kernel_rfl) (by kernel_rfl) (by kernel_rfl) (fun _ _ _ h => h) (Or.inl ⟨by rfl, ?_⟩) hHeld0 ?_
  rotate_left
  · (intro w' hSw; (try dsimp only at hSw); go_simp; all_goals (with_reducible rfl))
  try simp only [Act.put, List.setIfInBounds_toArray, List.set_cons_zero, List.set_cons_succ]
  refine wpAnyH_take (i := 2) (oi := ⟨some 18, _, _, _, _, _⟩) (v := ?_) rfl (by kernel_rfl) (by kernel_rfl) (by kernel_rfl) (fun _ _ _ h => h) (Or.inl ⟨by rfl, ?_⟩) hHeld0 ?_
  rotate_left
  · (intro w' hSw; (try dsimp only at hSw); go_simp; all_goals (with_reducible rfl))
  try simp only [Act.put, List.setIfInBounds_toArray, List.set_cons_zero, List.set_cons_succ]
  refine wpAnyH_ready (rs := [3]) (by kernel_rfl) (by simp) (AllReadyH.cons (o := ⟨some 19, _, _, _, _, _⟩) rfl (fun K hK => ?_) AllReadyH.nil)
  go_simp
  (refine (scopy_any ⟨⟨g, t, tl⟩, At, nt, ct⟩ _ hv4.drew (by show nt ≤ _; omega)).mono ?_; rintro e w5 ⟨⟨s2, A3, n3, c3⟩, rfl, hs2e, hown5, hb5⟩; simp only at hs2e; subst hs2e; have hb5' : Below w4.heap.size w4 w5 := (Below.refl _ _).drew.trans hb5; have hown6 := hown2.below hb5'; have hs5 : w2.heap.size ≤ w5.heap.size := Nat.le_trans hs4 hb5'.size; have X5 := X4.below hb5' (by omega); have Y5 := Y4.below hb5' (by omega); replace g0 := X5.at 0 rfl; replace y0 := Y5.at 0 rfl; replace y1 := Y5.at 1 rfl; replace y2 := Y5.at 2 rfl; simp only [sv])
  go_simp
  refine hK.out _ _ (by exact ⟨g0, y0, y1, y2⟩) (fun hHeld1 => ?_)
  clear hK hHeld0 K
  try simp only [Act.put, List.setIfInBounds_toArray, List.set_cons_zero, List.set_cons_succ]
  refine wpAnyH_take (i := 4) (oi := ⟨some 20, _, _, _, _, _⟩) (v := ?_) rfl (by kernel_rfl) (by kernel_rfl) (by kernel_rfl) (fun _ _ _ h => h) (Or.inl ⟨by rfl, ?_⟩) hHeld1 ?_
  rotate_left
  · (intro w' hSw; (try dsimp only at hSw); go_simp; all_goals (with_reducible rfl))
  try simp only [Act.put, List.setIfInBounds_toArray, List.set_cons_zero, List.set_cons_succ]
  refine wpAnyH_ready (rs := [5]) (by kernel_rfl) (by simp) (AllReadyH.cons (o := ⟨some 21, _, _, _, _, _⟩) rfl (fun K hK => ?_) AllReadyH.nil)
  go_simp
  (have Z := Y5.alloc (.cells #[.int .i64 node, .int .i64 g, .int .i64 t, .slice A3 n3 c3] 45); replace g0 := (X5.alloc (.cells #[.int .i64 node, .int .i64 g, .int .i64 t, .slice A3 n3 c3] 45)).at 0 rfl; replace y0 := Z.at 0 rfl; replace y1 := Z.at 1 rfl; replace y2 := Z.at 2 rfl)
  go_simp
  refine hK.out _ _ (by exact ⟨g0, y0, y1, y2⟩) (fun hHeld2 => ?_)
  clear hK hHeld1 K
  try simp only [Act.put, List.setIfInBounds_toArray, List.set_cons_zero, List.set_cons_succ]
  refine wpAnyH_ready (rs := [6]) (by kernel_rfl) (by simp) (AllReadyH.cons (o := ⟨some 22, _, _, _, _, _⟩) rfl (fun K hK => ?_) AllReadyH.nil)
  (refine pushF_step (f := ncl) (y := ⟨node, ⟨⟨g, t, tl⟩, A3, n3, c3⟩⟩) nmT ncl_len ncl_one rfl (.tmp 16) (.tmp 21) (by rfl) w2.heap.size rfl (by rfl) (by rfl) hown6.1 (by show (m2 + 1) * 48 ≤ _; omega) (by show m2 + 1 ≤ _; omega) hs5 ?_; rintro A4 c4 w6 hown7 hb6 hkeep; have X6 := X5.below hb6 (by omega); have Y6 := Y5.below hb6 (by omega); replace g0 := X6.at 0 rfl; replace y0 := Y6.at 0 rfl; replace y1 := Y6.at 1 rfl; replace y2 := Y6.at 2 rfl)
  go_simp
  refine hK.out _ _ (by exact ⟨g0, y0, y1, y2⟩) (fun hHeld3 => ?_)
  clear hK hHeld2 K
  try simp only [Act.put, List.setIfInBounds_toArray, List.set_cons_zero, List.set_cons_succ]
  refine wpAnyH_take (i := 7) (oi := ⟨some 7, _, _, _, _, _⟩) (v := ?_) rfl (by kernel_rfl) (by kernel_rfl) (by kernel_rfl) (fun _ _ _ h => h) (Or.inl ⟨by rfl, ?_⟩) hHeld3 ?_
  rotate_left
  · (intro w' hSw; (try dsimp only at hSw); go_simp; all_goals (with_reducible rfl))
  try simp only [Act.put, List.setIfInBounds_toArray, List.set_cons_zero, List.set_cons_succ]
  refine wpAnyH_done (by kernel_rfl) ?_ _
  have b6 : Below w2.heap.size w2 w6 := (b4.trans (hb5'.mono hs4)).trans hb6
  have hs6 := b6.size
  have hO8 : VOwn w2.heap.size w6 ⟨O ++ [⟨node, ⟨⟨g, t, tl⟩, A3, n3, c3⟩⟩], A4, m2 + 1, c4⟩ := by
    refine ⟨(by exact hown7), fun y hy => ?_⟩
    rcases List.mem_append.1 hy with hy | hy
    · have h9 := hown6.2 y hy
      exact hkeep h9.1 h9.2
    · obtain rfl : y = ⟨node, ⟨⟨g, t, tl⟩, A3, n3, c3⟩⟩ := by simpa using hy
      exact hkeep hown5.srd (off_own hown2 hown5 (Nat.le_refl _))
  have b6w : Below w.heap.size w w6 := HB2.out.trans (b6.mono (by omega))
  clear hown7 hkeep hown6 hown5 hown2 hb5 hb5' hb6 b4 y0 y1 y2 X4 Y4 X5 Y5 Z Y6 hv4
  go_wp2_with fail
  refine (vadd_any w2.heap.size _ l (fun y => decide (node < y)) _ _ vegGt A4 A (m2 + 1) c4 n c w w6 h (by omega) b6w hs6 hO8 (by omega) (by omega) hf (vmeant_gt (b := w.heap.size) (by omega) hs6 g0)).mono ?_
  rintro e w7 ⟨U7, rfl, hv7, hown8, hb7⟩
  have HV7 := Lib.hid hv7
  clear hv7
  go_wp2
  go_ret
  refine ⟨U7, rfl, ?_, hown8.mono (by omega), HB2.out.trans ((b6.trans hb7).mono (by omega))⟩
  refine HV7.out.trans (Eq.trans ?_ HPP.out.symm)
  rw [List.map_append, show O.map Nv.nm = _ from HO.out, filter_view l (fun y => decide (y < node)), filter_view l (fun y => decide (node < y))]
  rfl
end Go.Proofs.Ytpfkgddcoancnaa
