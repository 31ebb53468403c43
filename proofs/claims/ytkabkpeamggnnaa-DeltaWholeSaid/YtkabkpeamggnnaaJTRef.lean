/- EHelp TRef TRef2 TRef3 TRef4 TRef5 TGreat (merged). -/
import Derived.Test.YtkabkpeamggnnaaJMem
import Derived.Test.YtkabkpeamggnnaaJECode
namespace Go.Proofs.Ytkabkpeamggnnaa
set_option linter.unusedVariables false
set_option linter.unusedSimpArgs false
open Go.RowKit

theorem below_of_drew {w w' : World} {q : Nat} (h : w' = w.drewN q) : Below w.heap.size w w' := by rw [h]; exact below_dn (Below.refl _ _) q
theorem Rd.allocH {w : World} {size n : Nat} {A : Option Addr} {xs : List Value} (h : Rd w w.heap.size size A n xs) (o : Obj) : Rd (w.alloc o) (w.alloc o).heap.size size A n xs := (h.alloc (Nat.le_refl _) o).more (by simp)
theorem Rd.drewH {w : World} {size n : Nat} {A : Option Addr} {xs : List Value} (h : Rd w w.heap.size size A n xs) : Rd w.drew w.drew.heap.size size A n xs := h
theorem great_small {l : List Ent} {n : Nat} (h : E.great l = false) (hl : l.length = n) : n ≤ 4000 := by
  have := of_decide_eq_false h
  omega
theorem lit_own (w : World) : (w.alloc (.cells #[] 58)).ownsRow w.heap.size 58 3 (.slice (some ⟨w.heap.size, 0, none⟩) 0 0) 0 [] := World.ownsRow_lit w #[] 0 (Nat.le_refl _) (by unfold maxLen; omega) rfl

theorem raboves_made (l : List Ent) (v : Int) (A : Option Addr) (n c B : Nat) (w : World) (h : Rd w B 3 A n (EC l)) (hB : B ≤ w.heap.size) (hn : n * 32 ≤ 140737488351232) :
    Calls Try.prog 62 #[.slice A n c, .int .i64 v] w (Made w (E.aboves l v)) :=
  (raboves_any l v A n c B w h hB hn).mono fun e w' ⟨A', c', he, ho, hb⟩ => ⟨A', _, c', he, rfl, ho, hb⟩
end Go.Proofs.Ytkabkpeamggnnaa

namespace Go.Proofs.Ytkabkpeamggnnaa
set_option linter.unusedVariables false
set_option linter.unusedSimpArgs false
open Go.RowKit

noncomputable def srightB (s : St) : Bool := decide (1 ≤ s.gen) && decide (s.gen ≤ 1099511627776) && decide (0 ≤ s.beat) && decide (s.beat ≤ 1099511627776) && rightB s.apps
theorem srightB_out {s : St} (h : srightB s = true) : S.right s := by
  unfold srightB at h
  simp only [Bool.and_eq_true, decide_eq_true_eq] at h
  obtain ⟨⟨⟨⟨h1, h2⟩, h3⟩, h4⟩, h5⟩ := h
  exact ⟨h1, h2, h3, h4, rightB_out h5⟩
theorem srightB_yes {s : St} (h : S.right s) : srightB s = true := by
  obtain ⟨h1, h2, h3, h4, h5⟩ := h
  unfold srightB
  simp [h1, h2, h3, h4, rightB_yes h5]
theorem srightB_no {s : St} (h : ¬ S.right s) : srightB s = false := by
  rcases h2 : srightB s
  · rfl
  · exact absurd (srightB_out h2) h

theorem own_set {w : World} {base b o : Nat} {e : TypeId} {size n : Nat} {v : Value} {xs : List Value} (h : w.ownsRow base e size v n xs) (hb : b < base) (u : Value) : (w.setCell ⟨b, o, none⟩ u).ownsRow base e size v n xs := ownsRow_setCell_below h hb u
/-- its table is the call's own -/
def SOwn (base : Nat) (w : World) (v : Sv) : Prop := w.ownsRow base 58 3 (.slice v.A v.n v.c) v.n (EC v.s.apps)
theorem SOwn.srd {base : Nat} {w : World} {v : Sv} (h : SOwn base w v) : SRd w v := Rd.of_own h
/-- a state that was made -/
def MadeS (W : World) (s : St) (e : Ending) (w' : World) : Prop :=
  ∃ v : Sv, e = .returned (sv v) ∧ v.s = s ∧ SOwn W.heap.size w' v ∧ Below W.heap.size W w'
def sameB (a b : St) : Bool := decide (a = b)
theorem sameB_eq (a b : St) : sameB a b = (decide (a.gen = b.gen) && decide (a.beat = b.beat) && decide (a.apps = b.apps)) := by
  obtain ⟨g, t, l⟩ := a
  obtain ⟨g', t', l'⟩ := b
  unfold sameB
  rw [Bool.eq_iff_iff]
  simp [and_assoc]

set_option maxHeartbeats 1000000 in
theorem rsright_any (v : Sv) (w : World) (h : SRd w v) (hn : v.n * 32 ≤ 140737488351232) :
    Calls Try.prog 35 #[sv v] w fun e w' => e = .returned (.bool (srightB v.s)) ∧ Below w.heap.size w w' := by
  obtain ⟨⟨g, t, l⟩, A, n, c⟩ := v
  simp only [sv]
  have h1 := (h.alloc (.cells #[.int .i64 g, .int .i64 t, .slice A n c] 40))
  have b1 : Below w.heap.size w (w.alloc (.cells #[.int .i64 g, .int .i64 t, .slice A n c] 40)) := (Below.refl _ _).alloc (Nat.le_refl _) _
  unfold SRd at h1
  simp only at h1 hn
  have HF : ∀ {p : Prop}, ¬ p → (srightB ⟨g, t, l⟩ = false ∨ True) := fun _ => Or.inr trivial
  clear HF h
  by_cases e1 : 1 ≤ g
  · by_cases e2 : g ≤ 1099511627776
    · by_cases e3 : 0 ≤ t
      · by_cases e4 : t ≤ 1099511627776
        · have hs : srightB ⟨g, t, l⟩ = rightB l := by unfold srightB; simp [e1, e2, e3, e4]
          have HS := Lib.hid hs
          clear hs
          go_enter Try.func35, Try.ntmps35
          go_wp2_with fail
          refine (rright_any l A n c _ _ h1 (Nat.le_refl _) hn).mono ?_
          rintro e w2 ⟨rfl, hb⟩
          go_wp2
          go_ret
          exact ⟨ret_bool HS.out.symm, b1.trans (hb.mono b1.size)⟩
        · have hs : srightB ⟨g, t, l⟩ = false := srightB_no fun h => e4 h.2.2.2.1
          have HS := Lib.hid hs
          clear hs
          go_enter Try.func35, Try.ntmps35
          go_wp2
          go_ret
          exact ⟨ret_bool HS.out.symm, b1⟩
      · have hs : srightB ⟨g, t, l⟩ = false := srightB_no fun h => e3 h.2.2.1
        have HS := Lib.hid hs
        clear hs
        go_enter Try.func35, Try.ntmps35
        go_wp2
        go_ret
        exact ⟨ret_bool HS.out.symm, b1⟩
    · have hs : srightB ⟨g, t, l⟩ = false := srightB_no fun h => e2 h.2.1
      have HS := Lib.hid hs
      clear hs
      go_enter Try.func35, Try.ntmps35
      go_wp2
      go_ret
      exact ⟨ret_bool HS.out.symm, b1⟩
  · have hs : srightB ⟨g, t, l⟩ = false := srightB_no fun h => e1 h.1
    have HS := Lib.hid hs
    clear hs
    go_enter Try.func35, Try.ntmps35
    go_wp2
    go_ret
    exact ⟨ret_bool HS.out.symm, b1⟩

/-- the cells of a boxed state -/
theorem box_cells {w : World} {b : Nat} {T : TypeId} {g t : Int} {x : Value} (h : Box w b T #[.int .i64 g, .int .i64 t, x]) :
    w.cell? ⟨b, 0, none⟩ = some (.int .i64 g) ∧ w.cell? ⟨b, 1, none⟩ = some (.int .i64 t) ∧ w.cell? ⟨b, 2, none⟩ = some x := ⟨h.at 0 rfl, h.at 1 rfl, h.at 2 rfl⟩
theorem stop_lt {g t : Int} {l : List Ent} (h : t < E.top l) : S.top ⟨g, t, l⟩ = E.top l := by show max t (E.top l) = _; omega
theorem stop_ge {g t : Int} {l : List Ent} (h : ¬ t < E.top l) : S.top ⟨g, t, l⟩ = t := by show max t (E.top l) = _; omega

set_option maxHeartbeats 1000000 in
theorem rstop_any (v : Sv) (w : World) (h : SRd w v) (hn : v.n * 32 ≤ 140737488351232) :
    Calls Try.prog 50 #[sv v] w fun e w' => e = .returned (.int .i64 (S.top v.s)) ∧ Below w.heap.size w w' := by
  obtain ⟨⟨g, t, l⟩, A, n, c⟩ := v
  simp only [sv]
  have h1 := (h.alloc (.cells #[.int .i64 g, .int .i64 t, .slice A n c] 40))
  have b1 : Below w.heap.size w (w.alloc (.cells #[.int .i64 g, .int .i64 t, .slice A n c] 40)) := (Below.refl _ _).alloc (Nat.le_refl _) _
  obtain ⟨y0, y1, y2⟩ := box_cells (Box.new w #[.int .i64 g, .int .i64 t, .slice A n c] 40)
  unfold SRd at h1
  simp only at h1 hn
  clear h
  by_cases hlt : t < E.top l
  all_goals
    have ht := hlt
    first | replace ht := stop_lt (g := g) ht | replace ht := stop_ge (g := g) ht
    have HT := Lib.hid ht
    clear ht
    go_enter Try.func50, Try.ntmps50
    go_wp2
    generalize w.alloc (.cells #[.int .i64 g, .int .i64 t, .slice A n c] 40) = w1 at *
    refine wp_region_held_drew (S := (fun w' => w'.cell? ⟨w.heap.size, 1, none⟩ = some (.int .i64 t) ∧ w'.cell? ⟨w.heap.size, 2, none⟩ = some (.slice A n c))) (by kernel_rfl) (by exact ⟨y1, y2⟩) (fun hHeld0 => ?_)
    refine wpAnyH_take (i := 0) (oi := ⟨some 3, _, _, _, _, _⟩) (v := ?_) rfl (by kernel_rfl) (by kernel_rfl) (by kernel_rfl) (fun _ _ _ h => h) (Or.inl ⟨by rfl, ?_⟩) hHeld0 ?_
    rotate_left
    · (intro w' hSw; (try dsimp only at hSw); go_simp; all_goals (with_reducible rfl))
    try simp only [Act.put, sA, sB, sC]
    refine wpAnyH_take (i := 1) (oi := ⟨some 4, _, _, _, _, _⟩) (v := ?_) rfl (by kernel_rfl) (by kernel_rfl) (by kernel_rfl) (fun _ _ _ h => h) (Or.inl ⟨by rfl, ?_⟩) hHeld0 ?_
    rotate_left
    · (intro w' hSw; (try dsimp only at hSw); go_simp; all_goals (with_reducible rfl))
    try simp only [Act.put, sA, sB, sC]
    refine wpAnyH_take (i := 2) (oi := ⟨some 5, _, _, _, _, _⟩) (v := ?_) rfl (by kernel_rfl) (by kernel_rfl) (by kernel_rfl) (fun _ _ _ h => h) (Or.inl ⟨by rfl, ?_⟩) hHeld0 ?_
    rotate_left
    · (intro w' hSw; (try dsimp only at hSw); go_simp; all_goals (with_reducible rfl))
    try simp only [Act.put, sA, sB, sC]
    refine wpAnyH_take (i := 3) (oi := ⟨some 6, _, _, _, _, _⟩) (v := ?_) rfl (by kernel_rfl) (by kernel_rfl) (by kernel_rfl) (fun _ _ _ h => h) (Or.inl ⟨by rfl, ?_⟩) hHeld0 ?_
    rotate_left
    · (intro w' hSw; (try dsimp only at hSw); go_simp; all_goals (with_reducible rfl))
    try simp only [Act.put, sA, sB, sC]
    refine wpAnyH_ready (rs := [4]) (by kernel_rfl) (by simp) (AllReadyH.cons (o := ⟨some 7, _, _, _, _, _⟩) rfl (fun K hK => ?_) AllReadyH.nil)
    go_simp
    (refine (rtop_any l A n c _ _ h1.drew (by omega)).mono ?_; rintro e w2 ⟨rfl, rfl⟩)
    go_simp
    refine hK.out _ _ (by exact ⟨y1, y2⟩) (fun hHeld1 => ?_)
    clear hK hHeld0 K
    try simp only [Act.put, sA, sB, sC]
    refine wpAnyH_take (i := 5) (oi := ⟨some 8, _, _, _, _, _⟩) (v := ?_) rfl (by kernel_rfl) (by kernel_rfl) (by kernel_rfl) (fun _ _ _ h => h) (Or.inl ⟨by rfl, ?_⟩) hHeld1 ?_
    rotate_left
    · (intro w' hSw; (try dsimp only at hSw); go_simp; all_goals (with_reducible rfl))
    try simp only [Act.put, sA, sB, sC]
    refine wpAnyH_take (i := 6) (oi := ⟨some 2, _, _, _, _, _⟩) (v := ?_) rfl (by kernel_rfl) (by kernel_rfl) (by kernel_rfl) (fun _ _ _ h => h) (Or.inl ⟨by rfl, ?_⟩) hHeld1 ?_
    rotate_left
    · (intro w' hSw; (try dsimp only at hSw); go_simp; all_goals (with_reducible rfl))
    try simp only [Act.put, sA, sB, sC]
    refine wpAnyH_done (by kernel_rfl) ?_ _
    go_wp2
    go_ret
    exact ⟨ret_int HT.out.symm, b1.drew⟩
end Go.Proofs.Ytkabkpeamggnnaa

namespace Go.Proofs.Ytkabkpeamggnnaa
set_option linter.unusedVariables false
set_option linter.unusedSimpArgs false
open Go.RowKit

theorem below2 (w : World) (o o' : Obj) : Below w.heap.size w ((w.alloc o).alloc o') := ((Below.refl _ _).alloc (Nat.le_refl _) _).alloc (by simp) _
set_option maxHeartbeats 1000000 in
theorem rssame_any (v v' : Sv) (w : World) (h : SRd w v) (h' : SRd w v') (hn : v.n * 32 ≤ 140737488351232) (hn' : v'.n * 32 ≤ 140737488351232) :
    Calls Try.prog 39 #[sv v, sv v'] w fun e w' => e = .returned (.bool (sameB v.s v'.s)) ∧ Below w.heap.size w w' := by
  obtain ⟨⟨g, t, l⟩, A, n, c⟩ := v
  obtain ⟨⟨g', t', l'⟩, A', n', c'⟩ := v'
  simp only [sv]
  have hb := below2 w (.cells #[.int .i64 g, .int .i64 t, .slice A n c] 40) (.cells #[.int .i64 g', .int .i64 t', .slice A' n' c'] 40)
  have h1 := (h.alloc (.cells #[.int .i64 g, .int .i64 t, .slice A n c] 40)).alloc (.cells #[.int .i64 g', .int .i64 t', .slice A' n' c'] 40)
  have h2 := (h'.alloc (.cells #[.int .i64 g, .int .i64 t, .slice A n c] 40)).alloc (.cells #[.int .i64 g', .int .i64 t', .slice A' n' c'] 40)
  unfold SRd at h1 h2
  simp only at h1 h2 hn hn'
  clear h h'
  have hs := sameB_eq ⟨g, t, l⟩ ⟨g', t', l'⟩
  by_cases e1 : g = g'
  · by_cases e2 : t = t'
    · subst e1 e2
      have hs2 : sameB ⟨g, t, l⟩ ⟨g, t, l'⟩ = decide (l = l') := by rw [hs]; simp
      have HS := Lib.hid hs2
      clear hs hs2
      go_enter Try.func39, Try.ntmps39
      go_wp2_with fail
      refine (rtsame_any l l' A A' n n' c c' _ _ _ h1 h2 hn hn').mono ?_
      rintro e w2 ⟨rfl, q, hq⟩
      have hb2 := below_of_drew hq
      clear hq
      go_wp2
      go_ret
      exact ⟨ret_bool HS.out.symm, hb.trans (hb2.mono hb.size)⟩
    · subst e1
      have hs2 : sameB ⟨g, t, l⟩ ⟨g, t', l'⟩ = false := by rw [hs]; simp [e2]
      have HS := Lib.hid hs2
      have t2 : (t == t') = false := beq_eq_false_iff_ne.2 e2
      clear hs hs2 e2
      go_enter Try.func39, Try.ntmps39
      go_wp2
      go_ret
      exact ⟨ret_bool HS.out.symm, hb⟩
  · have hs2 : sameB ⟨g, t, l⟩ ⟨g', t', l'⟩ = false := by rw [hs]; simp [e1]
    have HS := Lib.hid hs2
    have t2 : (g == g') = false := beq_eq_false_iff_ne.2 e1
    clear hs hs2 e1
    go_enter Try.func39, Try.ntmps39
    go_wp2
    go_ret
    exact ⟨ret_bool HS.out.symm, hb⟩

theorem rsgreat_any (v : Sv) (w : World) (h : SRd w v) (hn : v.n * 32 ≤ 140737488351232) (hv : ∀ x ∈ v.s.apps, x.val.length ≤ 140737488351232) :
    Calls Try.prog 34 #[sv v] w fun e w' => e = .returned (.bool (E.great v.s.apps)) ∧ Below w.heap.size w w' := by
  obtain ⟨⟨g, t, l⟩, A, n, c⟩ := v
  simp only [sv]
  have h1 := h.alloc (.cells #[.int .i64 g, .int .i64 t, .slice A n c] 40)
  have b1 : Below w.heap.size w (w.alloc (.cells #[.int .i64 g, .int .i64 t, .slice A n c] 40)) := (Below.refl _ _).alloc (Nat.le_refl _) _
  unfold SRd at h1
  simp only at h1 hn
  clear h
  have HV := Lib.hid hv
  clear hv
  go_enter Try.func34, Try.ntmps34
  go_wp2_with fail
  refine (rgreat_any l A n c _ _ h1 (by omega) HV.out).mono ?_
  rintro e w2 ⟨rfl, rfl⟩
  go_wp2
  go_ret
  exact ⟨rfl, b1⟩

set_option maxHeartbeats 1000000 in
theorem rsabove_any (v : Sv) (k : Int) (w : World) (h : SRd w v) (hn : v.n * 32 ≤ 140737488351232) :
    Calls Try.prog 40 #[sv v, .int .i64 k] w (MadeS w (S.above v.s k)) := by
  obtain ⟨⟨g, t, l⟩, A, n, c⟩ := v
  simp only [sv]
  have X := (Box.new w #[.int .i64 g, .int .i64 t, .slice A n c] 40).alloc (.cells #[.int .i64 0, .int .i64 0, .slice none 0 0] 40)
  have Z := Box.new (w.alloc (.cells #[.int .i64 g, .int .i64 t, .slice A n c] 40)) #[.int .i64 0, .int .i64 0, .slice none 0 0] 40
  rw [show (w.alloc (.cells #[.int .i64 g, .int .i64 t, .slice A n c] 40)).heap.size = w.heap.size + 1 by simp] at Z
  have hb := below2 w (.cells #[.int .i64 g, .int .i64 t, .slice A n c] 40) (.cells #[.int .i64 0, .int .i64 0, .slice none 0 0] 40)
  have h1 := (h.alloc (.cells #[.int .i64 g, .int .i64 t, .slice A n c] 40)).alloc (.cells #[.int .i64 0, .int .i64 0, .slice none 0 0] 40)
  have hs : ((w.alloc (.cells #[.int .i64 g, .int .i64 t, .slice A n c] 40)).alloc (.cells #[.int .i64 0, .int .i64 0, .slice none 0 0] 40)).heap.size = w.heap.size + 2 := by simp
  have HS := Lib.hid hs
  unfold SRd at h1
  simp only at h1 hn
  clear h hs
  go_enter Try.func40, Try.ntmps40
  go_wp2_with fail
  generalize (w.alloc (.cells #[.int .i64 g, .int .i64 t, .slice A n c] 40)).alloc (.cells #[.int .i64 0, .int .i64 0, .slice none 0 0] 40) = w1 at *
  refine (raboves_made l k A n c _ w1 h1 (Nat.le_refl _) hn).mono ?_
  rintro e w2 ⟨A2, n2, c2, rfl, hn2, hown, hb2⟩
  have hs1 : w.heap.size + 1 < w1.heap.size := by have := HS.out; omega
  have X2 := X.below hb2 (by omega)
  have Z2 := Z.below hb2 hs1
  have hb3 := hb.trans (hb2.mono hb.size)
  have y0 := X2.at 0 rfl
  have y1 := X2.at 1 rfl
  have y2 := X2.at 2 rfl
  have yf := X2.cold
  have z0 := Z2.at 0 rfl
  have z1 := Z2.at 1 rfl
  have z2 := Z2.at 2 rfl
  have zf := Z2.cold
  have z := Z2.lt
  clear hb2 hn2 X Z h1 hb
  go_wp2
  refine bodyPost_ret (v := sv ⟨⟨g, t, E.aboves l k⟩, A2, n2, c2⟩) (by simp [results, Try.results40, go_sem, y0, y1, y2, z0, z1, z2, z, sv]; try rfl) rfl ?_
  refine ⟨⟨⟨g, t, E.aboves l k⟩, A2, n2, c2⟩, rfl, rfl, ?_, ?_⟩
  · show World.ownsRow _ _ _ 3 (.slice A2 n2 c2) n2 (EC (E.aboves l k))
    refine own_mono (base := w1.heap.size) ?_ (by omega)
    repeat (first | (with_reducible exact hown) | (with_reducible refine own_set ?_ (by omega) _))
  · repeat (first | (with_reducible exact hb3) | (with_reducible refine below_set ?_ (by omega) _))

set_option maxHeartbeats 1000000 in
theorem rscopy_any (v : Sv) (w : World) (h : SRd w v) (hn : v.n ≤ 1000000) :
    Calls Try.prog 42 #[sv v] w (MadeS w v.s) := by
  obtain ⟨⟨g, t, l⟩, A, n, c⟩ := v
  simp only [sv]
  have hl := h.len
  have HL := Lib.hid hl
  have X := (Box.new w #[.int .i64 g, .int .i64 t, .slice A n c] 40).alloc (.cells #[.int .i64 0, .int .i64 0, .slice none 0 0] 40)
  have Z := Box.new (w.alloc (.cells #[.int .i64 g, .int .i64 t, .slice A n c] 40)) #[.int .i64 0, .int .i64 0, .slice none 0 0] 40
  rw [show (w.alloc (.cells #[.int .i64 g, .int .i64 t, .slice A n c] 40)).heap.size = w.heap.size + 1 by simp] at Z
  have hb := below2 w (.cells #[.int .i64 g, .int .i64 t, .slice A n c] 40) (.cells #[.int .i64 0, .int .i64 0, .slice none 0 0] 40)
  have h1 := (h.alloc (.cells #[.int .i64 g, .int .i64 t, .slice A n c] 40)).alloc (.cells #[.int .i64 0, .int .i64 0, .slice none 0 0] 40)
  have hs : ((w.alloc (.cells #[.int .i64 g, .int .i64 t, .slice A n c] 40)).alloc (.cells #[.int .i64 0, .int .i64 0, .slice none 0 0] 40)).heap.size = w.heap.size + 2 := by simp
  have HS := Lib.hid hs
  unfold SRd at h1
  simp only at h1 hn
  clear h hs hl
  go_enter Try.func42, Try.ntmps42
  generalize hw1 : (w.alloc (.cells #[.int .i64 g, .int .i64 t, .slice A n c] 40)).alloc (.cells #[.int .i64 0, .int .i64 0, .slice none 0 0] 40) = w1 at X Z hb h1 HS
  have HW1 := Lib.hid hw1
  clear hw1
  have X1 := X.alloc (.cells #[] 58)
  have x2 := X1.at 2 rfl
  have hlit : (w1.alloc (.cells #[] 58)).ownsRow w1.heap.size 58 3 (.slice (some ⟨w.heap.size + 1 + 1, 0, none⟩) 0 0) 0 [] := by
    rw [show w.heap.size + 1 + 1 = w1.heap.size from HS.out.symm]; exact lit_own w1
  have HLIT := Lib.hid hlit
  clear hlit
  go_wp2_with (at_builtin; rw [HW1.out]; refine app_law0 enT rfl (.tmp 3) (.tmp 5) rfl w1.heap.size rfl HLIT.out rfl (h1.alloc (Nat.le_refl _) _) (EC_one l) (by omega) (by omega) (by simp) ?_; rintro A2 c2 w2 ⟨hown, hg2, _, _⟩; have hb2 : Below w1.heap.size w1 w2 := below_app ((Below.refl _ _).alloc (Nat.le_refl _) _) HLIT.out hg2 (Nat.le_refl _) (by simp); have X2 := X.below hb2 (by have := HS.out; omega); have Z2 := Z.below hb2 (by have := HS.out; omega); have y0 := X2.at 0 rfl; have y1 := X2.at 1 rfl; have y2 := X2.at 2 rfl; have yf := X2.cold; have z0 := Z2.at 0 rfl; have z1 := Z2.at 1 rfl; have z2 := Z2.at 2 rfl; have zf := Z2.cold; have z := Z2.lt; have hb3 := hb.trans (hb2.mono hb.size); clear hg2 hb2 x2)
  refine bodyPost_ret (v := sv ⟨⟨g, t, l⟩, A2, n, c2⟩) (by simp [results, Try.results42, go_sem, y0, y1, y2, z0, z1, z2, z, sv]; try rfl) rfl ?_
  refine ⟨⟨⟨g, t, l⟩, A2, n, c2⟩, rfl, rfl, ?_, ?_⟩
  · show World.ownsRow _ _ _ 3 (.slice A2 n c2) n (EC l)
    refine own_mono (base := w1.heap.size) ?_ (by have := HS.out; omega)
    have hs2 := HS.out
    rw [List.nil_append] at hown
    repeat (first | (with_reducible exact hown) | (with_reducible refine own_set ?_ (by omega) _))
  · repeat (first | (with_reducible exact hb3) | (with_reducible refine below_set ?_ (by omega) _))
end Go.Proofs.Ytkabkpeamggnnaa

namespace Go.Proofs.Ytkabkpeamggnnaa
set_option linter.unusedVariables false
set_option linter.unusedSimpArgs false
open Go.RowKit

theorem Box.other3 {w : World} {b b' : Nat} {T : TypeId} {cs : Array Value} (h : Box w b T cs) (hne : b ≠ b') (u0 u1 u2 : Value) : Box (((w.setCell ⟨b', 0, none⟩ u0).setCell ⟨b', 1, none⟩ u1).setCell ⟨b', 2, none⟩ u2) b T cs := ((h.other hne u0).other hne u1).other hne u2

set_option maxHeartbeats 2000000 in
set_option maxRecDepth 20000 in
theorem rsjoin_any (v v' : Sv) (w : World) (h : SRd w v) (h' : SRd w v') (hn : v.n ≤ 400000) (hn' : v'.n ≤ 400000) (hr : S.rise v.s) :
    Calls Try.prog 54 #[sv v, sv v'] w (MadeS w (S.join v.s v'.s)) := by
  obtain ⟨⟨g, t, l⟩, A, n, c⟩ := v
  obtain ⟨⟨g', t', l'⟩, A', n', c'⟩ := v'
  simp only [sv]
  replace h := h.alloc (.cells #[.int .i64 g, .int .i64 t, .slice A n c] 40)
  replace h' := h'.alloc (.cells #[.int .i64 g, .int .i64 t, .slice A n c] 40)
  have X := Box.new w #[.int .i64 g, .int .i64 t, .slice A n c] 40
  have hb : Below w.heap.size w (w.alloc (.cells #[.int .i64 g, .int .i64 t, .slice A n c] 40)) := (Below.refl _ _).alloc (Nat.le_refl _) _
  replace h := h.alloc (.cells #[.int .i64 g', .int .i64 t', .slice A' n' c'] 40)
  replace h' := h'.alloc (.cells #[.int .i64 g', .int .i64 t', .slice A' n' c'] 40)
  replace X := X.alloc (.cells #[.int .i64 g', .int .i64 t', .slice A' n' c'] 40)
  have Y := Box.new (w.alloc (.cells #[.int .i64 g, .int .i64 t, .slice A n c] 40)) #[.int .i64 g', .int .i64 t', .slice A' n' c'] 40
  rw [show (w.alloc (.cells #[.int .i64 g, .int .i64 t, .slice A n c] 40)).heap.size = w.heap.size + 1 by simp] at Y
  replace hb := hb.alloc hb.size (.cells #[.int .i64 g', .int .i64 t', .slice A' n' c'] 40)
  replace h := h.alloc (.cells #[.int .i64 0, .int .i64 0, .slice none 0 0] 40)
  replace h' := h'.alloc (.cells #[.int .i64 0, .int .i64 0, .slice none 0 0] 40)
  replace X := X.alloc (.cells #[.int .i64 0, .int .i64 0, .slice none 0 0] 40)
  replace Y := Y.alloc (.cells #[.int .i64 0, .int .i64 0, .slice none 0 0] 40)
  have Z := Box.new ((w.alloc (.cells #[.int .i64 g, .int .i64 t, .slice A n c] 40)).alloc (.cells #[.int .i64 g', .int .i64 t', .slice A' n' c'] 40)) #[.int .i64 0, .int .i64 0, .slice none 0 0] 40
  rw [show ((w.alloc (.cells #[.int .i64 g, .int .i64 t, .slice A n c] 40)).alloc (.cells #[.int .i64 g', .int .i64 t', .slice A' n' c'] 40)).heap.size = w.heap.size + 1 + 1 by simp] at Z
  replace hb := hb.alloc hb.size (.cells #[.int .i64 0, .int .i64 0, .slice none 0 0] 40)
  have HS : Hid ((((w.alloc (.cells #[.int .i64 g, .int .i64 t, .slice A n c] 40)).alloc (.cells #[.int .i64 g', .int .i64 t', .slice A' n' c'] 40)).alloc (.cells #[.int .i64 0, .int .i64 0, .slice none 0 0] 40)).heap.size = w.heap.size + 3) := Lib.hid (by simp)
  simp only at hn hn' hr
  have HR := Lib.hid hr
  clear hr
  by_cases hg1 : g' < g
  · have HJ := Lib.hid (S.join_gt hg1 : S.join ⟨g, t, l⟩ ⟨g', t', l'⟩ = ⟨g, t, l⟩)
    go_enter Try.func54, Try.ntmps54
    go_wp2_with fail
    generalize ((w.alloc (.cells #[.int .i64 g, .int .i64 t, .slice A n c] 40)).alloc (.cells #[.int .i64 g', .int .i64 t', .slice A' n' c'] 40)).alloc (.cells #[.int .i64 0, .int .i64 0, .slice none 0 0] 40) = w1 at *
    refine (rscopy_any ⟨⟨g, t, l⟩, A, n, c⟩ w1 h (by show n ≤ _; omega)).mono ?_
    rintro e w2 ⟨⟨s2, A2, n2, c2⟩, rfl, hs2, hown, hb2⟩
    simp only at hs2
    subst hs2
    have hown' : w2.ownsRow w1.heap.size 58 3 (.slice A2 n2 c2) n2 (EC l) := hown
    have Z2 := Z.below hb2 (by have := HS.out; omega)
    have z0 := Z2.at 0 rfl
    have z1 := Z2.at 1 rfl
    have z2 := Z2.at 2 rfl
    have zf := Z2.cold
    have z := Z2.lt
    have hb3 := hb.trans (hb2.mono hb.size)
    have hsz := HS.out
    have HSZ := Lib.hid (show w.heap.size + 2 < w1.heap.size by omega)
    clear hb2 hb hsz X Y Z h h'
    simp only [sv]
    go_wp2
    refine bodyPost_ret (v := sv ⟨⟨g, t, l⟩, A2, n2, c2⟩) (by simp [results, Try.results54, go_sem, z0, z1, z2, z, sv]; try rfl) rfl ?_
    refine ⟨⟨⟨g, t, l⟩, A2, n2, c2⟩, rfl, HJ.out.symm, ?_, ?_⟩
    · show World.ownsRow _ _ _ 3 (.slice A2 n2 c2) n2 (EC l)
      have hz := HSZ.out
      refine own_mono (base := w1.heap.size) ?_ (by omega)
      repeat (first | (with_reducible exact hown') | (with_reducible refine own_set ?_ (by omega) _))
    · repeat (first | (with_reducible exact hb3) | (with_reducible refine below_set ?_ (by omega) _))
  · by_cases hg2 : g < g'
    · have HJ := Lib.hid (S.join_lt hg2 : S.join ⟨g, t, l⟩ ⟨g', t', l'⟩ = ⟨g', t', l'⟩)
      go_enter Try.func54, Try.ntmps54
      go_wp2_with fail
      generalize ((w.alloc (.cells #[.int .i64 g, .int .i64 t, .slice A n c] 40)).alloc (.cells #[.int .i64 g', .int .i64 t', .slice A' n' c'] 40)).alloc (.cells #[.int .i64 0, .int .i64 0, .slice none 0 0] 40) = w1 at *
      refine (rscopy_any ⟨⟨g', t', l'⟩, A', n', c'⟩ w1 h' (by show n' ≤ _; omega)).mono ?_
      rintro e w2 ⟨⟨s2, A2, n2, c2⟩, rfl, hs2, hown, hb2⟩
      simp only at hs2
      subst hs2
      have hown' : w2.ownsRow w1.heap.size 58 3 (.slice A2 n2 c2) n2 (EC l') := hown
      have Z2 := Z.below hb2 (by have := HS.out; omega)
      have z0 := Z2.at 0 rfl
      have z1 := Z2.at 1 rfl
      have z2 := Z2.at 2 rfl
      have zf := Z2.cold
      have z := Z2.lt
      have hb3 := hb.trans (hb2.mono hb.size)
      have hsz := HS.out
      have HSZ := Lib.hid (show w.heap.size + 2 < w1.heap.size by omega)
      clear hb2 hb hsz X Y Z h h'
      simp only [sv]
      go_wp2
      refine bodyPost_ret (v := sv ⟨⟨g', t', l'⟩, A2, n2, c2⟩) (by simp [results, Try.results54, go_sem, z0, z1, z2, z, sv]; try rfl) rfl ?_
      refine ⟨⟨⟨g', t', l'⟩, A2, n2, c2⟩, rfl, HJ.out.symm, ?_, ?_⟩
      · show World.ownsRow _ _ _ 3 (.slice A2 n2 c2) n2 (EC l')
        have hz := HSZ.out
        refine own_mono (base := w1.heap.size) ?_ (by omega)
        repeat (first | (with_reducible exact hown') | (with_reducible refine own_set ?_ (by omega) _))
      · repeat (first | (with_reducible exact hb3) | (with_reducible refine below_set ?_ (by omega) _))
    · have hge : g = g' := by omega
      subst hge
      clear hg1 hg2
      have y0 := X.at 0 rfl
      have y1 := X.at 1 rfl
      have y2 := X.at 2 rfl
      have x0 := Y.at 0 rfl
      have x1 := Y.at 1 rfl
      have x2 := Y.at 2 rfl
      by_cases htt : t < t'
      all_goals
        have HJ := Lib.hid (S.join_eq (a := ⟨g, t, l⟩) (b := ⟨g, t', l'⟩) rfl)
        have hmax : max t t' = if t < t' then t' else t := imax t t'
        have HMAX := Lib.hid hmax
        clear hmax
        go_enter Try.func54, Try.ntmps54
        go_wp2
        generalize ((w.alloc (.cells #[.int .i64 g, .int .i64 t, .slice A n c] 40)).alloc (.cells #[.int .i64 g, .int .i64 t', .slice A' n' c'] 40)).alloc (.cells #[.int .i64 0, .int .i64 0, .slice none 0 0] 40) = w1 at *
        refine wp_region_held_drew (S := (fun w' => (w'.cell? ⟨w.heap.size, 0, none⟩ = some (.int .i64 g) ∧ w'.cell? ⟨w.heap.size, 1, none⟩ = some (.int .i64 t) ∧ w'.cell? ⟨w.heap.size, 2, none⟩ = some (.slice A n c)) ∧ w'.cell? ⟨w.heap.size + 1, 1, none⟩ = some (.int .i64 t') ∧ w'.cell? ⟨w.heap.size + 1, 2, none⟩ = some (.slice A' n' c'))) (by kernel_rfl) (by first | exact ⟨⟨y0, y1, y2⟩, x1, x2⟩ | exact ⟨⟨X2.at 0 rfl, X2.at 1 rfl, X2.at 2 rfl⟩, Y2.at 1 rfl, Y2.at 2 rfl⟩ | exact ⟨⟨(X2.other3 (by omega) _ _ _).at 0 rfl, (X2.other3 (by omega) _ _ _).at 1 rfl, (X2.other3 (by omega) _ _ _).at 2 rfl⟩, (Y2.other3 (by omega) _ _ _).at 1 rfl, (Y2.other3 (by omega) _ _ _).at 2 rfl⟩) (fun hHeld0 => ?_)
        refine wpAnyH_take (i := 0) (oi := ⟨some 19, _, _, _, _, _⟩) (v := ?_) rfl (by kernel_rfl) (by kernel_rfl) (by kernel_rfl) (fun _ _ _ h => h) (Or.inl ⟨by rfl, ?_⟩) hHeld0 ?_
        rotate_left
        · (intro w' hSw; (try dsimp only at hSw); go_simp; all_goals (with_reducible rfl))
        try simp only [Act.put, sA, sB, sC]
        refine wpAnyH_take (i := 1) (oi := ⟨some 20, _, _, _, _, _⟩) (v := ?_) rfl (by kernel_rfl) (by kernel_rfl) (by kernel_rfl) (fun _ _ _ h => h) (Or.inl ⟨by rfl, ?_⟩) hHeld0 ?_
        rotate_left
        · (intro w' hSw; (try dsimp only at hSw); go_simp; all_goals (with_reducible rfl))
        try simp only [Act.put, sA, sB, sC]
        refine wpAnyH_take (i := 2) (oi := ⟨some 21, _, _, _, _, _⟩) (v := ?_) rfl (by kernel_rfl) (by kernel_rfl) (by kernel_rfl) (fun _ _ _ h => h) (Or.inl ⟨by rfl, ?_⟩) hHeld0 ?_
        rotate_left
        · (intro w' hSw; (try dsimp only at hSw); go_simp; all_goals (with_reducible rfl))
        try simp only [Act.put, sA, sB, sC]
        refine wpAnyH_take (i := 3) (oi := ⟨some 22, _, _, _, _, _⟩) (v := ?_) rfl (by kernel_rfl) (by kernel_rfl) (by kernel_rfl) (fun _ _ _ h => h) (Or.inl ⟨by rfl, ?_⟩) hHeld0 ?_
        rotate_left
        · (intro w' hSw; (try dsimp only at hSw); go_simp; all_goals (with_reducible rfl))
        try simp only [Act.put, sA, sB, sC]
        refine wpAnyH_take (i := 4) (oi := ⟨some 23, _, _, _, _, _⟩) (v := ?_) rfl (by kernel_rfl) (by kernel_rfl) (by kernel_rfl) (fun _ _ _ h => h) (Or.inl ⟨by rfl, ?_⟩) hHeld0 ?_
        rotate_left
        · (intro w' hSw; (try dsimp only at hSw); go_simp; all_goals (with_reducible rfl))
        try simp only [Act.put, sA, sB, sC]
        refine wpAnyH_take (i := 5) (oi := ⟨some 24, _, _, _, _, _⟩) (v := ?_) rfl (by kernel_rfl) (by kernel_rfl) (by kernel_rfl) (fun _ _ _ h => h) (Or.inl ⟨by rfl, ?_⟩) hHeld0 ?_
        rotate_left
        · (intro w' hSw; (try dsimp only at hSw); go_simp; all_goals (with_reducible rfl))
        try simp only [Act.put, sA, sB, sC]
        refine wpAnyH_take (i := 6) (oi := ⟨some 25, _, _, _, _, _⟩) (v := ?_) rfl (by kernel_rfl) (by kernel_rfl) (by kernel_rfl) (fun _ _ _ h => h) (Or.inl ⟨by rfl, ?_⟩) hHeld0 ?_
        rotate_left
        · (intro w' hSw; (try dsimp only at hSw); go_simp; all_goals (with_reducible rfl))
        try simp only [Act.put, sA, sB, sC]
        refine wpAnyH_take (i := 7) (oi := ⟨some 26, _, _, _, _, _⟩) (v := ?_) rfl (by kernel_rfl) (by kernel_rfl) (by kernel_rfl) (fun _ _ _ h => h) (Or.inl ⟨by rfl, ?_⟩) hHeld0 ?_
        rotate_left
        · (intro w' hSw; (try dsimp only at hSw); go_simp; all_goals (with_reducible rfl))
        try simp only [Act.put, sA, sB, sC]
        refine wpAnyH_take (i := 8) (oi := ⟨some 27, _, _, _, _, _⟩) (v := ?_) rfl (by kernel_rfl) (by kernel_rfl) (by kernel_rfl) (fun _ _ _ h => h) (Or.inl ⟨by rfl, ?_⟩) hHeld0 ?_
        rotate_left
        · (intro w' hSw; (try dsimp only at hSw); go_simp; all_goals (with_reducible rfl))
        try simp only [Act.put, sA, sB, sC]
        refine wpAnyH_take (i := 9) (oi := ⟨some 28, _, _, _, _, _⟩) (v := ?_) rfl (by kernel_rfl) (by kernel_rfl) (by kernel_rfl) (fun _ _ _ h => h) (Or.inl ⟨by rfl, ?_⟩) hHeld0 ?_
        rotate_left
        · (intro w' hSw; (try dsimp only at hSw); go_simp; all_goals (with_reducible rfl))
        try simp only [Act.put, sA, sB, sC]
        refine wpAnyH_take (i := 10) (oi := ⟨some 29, _, _, _, _, _⟩) (v := ?_) rfl (by kernel_rfl) (by kernel_rfl) (by kernel_rfl) (fun _ _ _ h => h) (Or.inl ⟨by rfl, ?_⟩) hHeld0 ?_
        rotate_left
        · (intro w' hSw; (try dsimp only at hSw); go_simp; all_goals (with_reducible rfl))
        try simp only [Act.put, sA, sB, sC]
        refine wpAnyH_ready (rs := [11]) (by kernel_rfl) (by simp) (AllReadyH.cons (o := ⟨some 30, _, _, _, _, _⟩) rfl (fun K hK => ?_) AllReadyH.nil)
        go_simp
        refine (rjoin_any l l' A A' n n' c c' _ _ w1.drew (Rd.drewH h) (Nat.le_refl _) (Rd.drewH h') (Nat.le_refl _) (by omega) (by omega) HR.out).mono ?_
        rintro e w2 ⟨A2, n2, c2, rfl, hn2, hown, hb2⟩
        have hsz := HS.out
        have hb2' : Below w1.heap.size w1 w2 := (Below.refl _ _).drew.trans hb2
        have X2 := X.below hb2' (by omega)
        have Y2 := Y.below hb2' (by omega)
        have Z2 := Z.below hb2' (by omega)
        have hown' : w2.ownsRow w1.heap.size 58 3 (.slice A2 n2 c2) n2 (EC (E.join l l')) := hown
        have z0 := Z2.at 0 rfl
        have z1 := Z2.at 1 rfl
        have z2 := Z2.at 2 rfl
        have zf := Z2.cold
        have z := Z2.lt
        have hb3 := hb.trans (hb2'.mono hb.size)
        have HSZ := Lib.hid (show w.heap.size + 2 < w1.heap.size by omega)
        clear hb2 hb2' hb hsz hown y0 y1 y2 x0 x1 x2 X Y Z h h' hn2
        have a0 := X2.at 0 rfl
        have a1 := X2.at 1 rfl
        have a2 := X2.at 2 rfl
        have e1 := Y2.at 1 rfl
        have e2 := Y2.at 2 rfl
        go_simp
        refine hK.out _ _ (by first | exact ⟨⟨y0, y1, y2⟩, x1, x2⟩ | exact ⟨⟨X2.at 0 rfl, X2.at 1 rfl, X2.at 2 rfl⟩, Y2.at 1 rfl, Y2.at 2 rfl⟩ | exact ⟨⟨(X2.other3 (by omega) _ _ _).at 0 rfl, (X2.other3 (by omega) _ _ _).at 1 rfl, (X2.other3 (by omega) _ _ _).at 2 rfl⟩, (Y2.other3 (by omega) _ _ _).at 1 rfl, (Y2.other3 (by omega) _ _ _).at 2 rfl⟩) (fun hHeld1 => ?_)
        clear hK hHeld0 K
        try simp only [Act.put, sA, sB, sC]
        refine wpAnyH_take (i := 12) (oi := ⟨some 31, _, _, _, _, _⟩) (v := ?_) rfl (by kernel_rfl) (by kernel_rfl) (by kernel_rfl) (fun _ _ _ h => h) (Or.inl ⟨by rfl, ?_⟩) hHeld1 ?_
        rotate_left
        · (intro w' hSw; (try dsimp only at hSw); go_simp; all_goals (with_reducible rfl))
        try simp only [Act.put, sA, sB, sC]
        refine wpAnyH_ready (rs := [13]) (by kernel_rfl) (by simp) (AllReadyH.cons (o := ⟨none, _, _, _, _, _⟩) rfl (fun K hK => ?_) AllReadyH.nil)
        go_simp
        go_simp
        refine hK.out _ _ (by first | exact ⟨⟨y0, y1, y2⟩, x1, x2⟩ | exact ⟨⟨X2.at 0 rfl, X2.at 1 rfl, X2.at 2 rfl⟩, Y2.at 1 rfl, Y2.at 2 rfl⟩ | exact ⟨⟨(X2.other3 (by omega) _ _ _).at 0 rfl, (X2.other3 (by omega) _ _ _).at 1 rfl, (X2.other3 (by omega) _ _ _).at 2 rfl⟩, (Y2.other3 (by omega) _ _ _).at 1 rfl, (Y2.other3 (by omega) _ _ _).at 2 rfl⟩) (fun hHeld2 => ?_)
        clear hK hHeld1 K
        try simp only [Act.put, sA, sB, sC]
        refine wpAnyH_done (by kernel_rfl) ?_ _
        go_wp2
        refine bodyPost_ret (v := sv ⟨⟨g, max t t', E.join l l'⟩, A2, n2, c2⟩) (by simp [results, Try.results54, go_sem, z0, z1, z2, z, sv, HMAX.out]; first | done | omega) rfl ?_
        refine ⟨⟨⟨g, max t t', E.join l l'⟩, A2, n2, c2⟩, rfl, HJ.out.symm, ?_, ?_⟩
        · show World.ownsRow _ _ _ 3 (.slice A2 n2 c2) n2 (EC (E.join l l'))
          have hz := HSZ.out
          refine own_mono (base := w1.heap.size) ?_ (by omega)
          repeat (first | (with_reducible exact hown') | (with_reducible refine own_set ?_ (by omega) _))
        · repeat (first | (with_reducible exact hb3) | (with_reducible refine below_set ?_ (by omega) _))
end Go.Proofs.Ytkabkpeamggnnaa

namespace Go.Proofs.Ytkabkpeamggnnaa
set_option linter.unusedVariables false
set_option linter.unusedSimpArgs false
open Go.RowKit

theorem join_apps_length (a b : St) : (S.join a b).apps.length ≤ a.apps.length + b.apps.length := by
  rcases Int.lt_trichotomy a.gen b.gen with h | h | h
  · rw [S.join_lt h]; omega
  · rw [S.join_eq h]; exact E.join_length _ _
  · rw [S.join_gt h]; omega
def soverB (a b : St) : Bool := sameB (S.join a b) a
set_option maxHeartbeats 2000000 in
set_option maxRecDepth 20000 in
theorem rsover_any (v v' : Sv) (w : World) (h : SRd w v) (h' : SRd w v') (hn : v.n ≤ 400000) (hn' : v'.n ≤ 400000) (hr : S.rise v.s) :
    Calls Try.prog 52 #[sv v, sv v'] w fun e w' => e = .returned (.bool (soverB v.s v'.s)) ∧ Below w.heap.size w w' := by
  obtain ⟨⟨g, t, l⟩, A, n, c⟩ := v
  obtain ⟨⟨g', t', l'⟩, A', n', c'⟩ := v'
  have hjl := join_apps_length ⟨g, t, l⟩ ⟨g', t', l'⟩
  have hl := h.len
  have hl' := h'.len
  simp only at hn hn' hr hl hl' hjl
  have hj2 : (S.join ⟨g, t, l⟩ ⟨g', t', l'⟩).apps.length ≤ n + n' := by omega
  have HJL := Lib.hid hj2
  have HR := Lib.hid hr
  clear hl hl' hjl hj2 hr
  simp only [sv]
  replace h := h.alloc (.cells #[.int .i64 g, .int .i64 t, .slice A n c] 40)
  replace h' := h'.alloc (.cells #[.int .i64 g, .int .i64 t, .slice A n c] 40)
  have X := Box.new w #[.int .i64 g, .int .i64 t, .slice A n c] 40
  have hb : Below w.heap.size w (w.alloc (.cells #[.int .i64 g, .int .i64 t, .slice A n c] 40)) := (Below.refl _ _).alloc (Nat.le_refl _) _
  replace h := h.alloc (.cells #[.int .i64 g', .int .i64 t', .slice A' n' c'] 40)
  replace h' := h'.alloc (.cells #[.int .i64 g', .int .i64 t', .slice A' n' c'] 40)
  replace X := X.alloc (.cells #[.int .i64 g', .int .i64 t', .slice A' n' c'] 40)
  have Y := Box.new (w.alloc (.cells #[.int .i64 g, .int .i64 t, .slice A n c] 40)) #[.int .i64 g', .int .i64 t', .slice A' n' c'] 40
  rw [show (w.alloc (.cells #[.int .i64 g, .int .i64 t, .slice A n c] 40)).heap.size = w.heap.size + 1 by simp] at Y
  replace hb := hb.alloc hb.size (.cells #[.int .i64 g', .int .i64 t', .slice A' n' c'] 40)
  have HS : Hid (((w.alloc (.cells #[.int .i64 g, .int .i64 t, .slice A n c] 40)).alloc (.cells #[.int .i64 g', .int .i64 t', .slice A' n' c'] 40)).heap.size = w.heap.size + 2) := Lib.hid (by simp)
  have y0 := X.at 0 rfl
  have y1 := X.at 1 rfl
  have y2 := X.at 2 rfl
  have x0 := Y.at 0 rfl
  have x1 := Y.at 1 rfl
  have x2 := Y.at 2 rfl
  go_enter Try.func52, Try.ntmps52
  go_wp2
  generalize (w.alloc (.cells #[.int .i64 g, .int .i64 t, .slice A n c] 40)).alloc (.cells #[.int .i64 g', .int .i64 t', .slice A' n' c'] 40) = w1 at *
  refine wp_region_held_drew (S := (fun w' => (w'.cell? ⟨w.heap.size, 0, none⟩ = some (.int .i64 g) ∧ w'.cell? ⟨w.heap.size, 1, none⟩ = some (.int .i64 t) ∧ w'.cell? ⟨w.heap.size, 2, none⟩ = some (.slice A n c)) ∧ (w'.cell? ⟨w.heap.size + 1, 0, none⟩ = some (.int .i64 g') ∧ w'.cell? ⟨w.heap.size + 1, 1, none⟩ = some (.int .i64 t') ∧ w'.cell? ⟨w.heap.size + 1, 2, none⟩ = some (.slice A' n' c')))) (by kernel_rfl) (by first | exact ⟨⟨y0, y1, y2⟩, x0, x1, x2⟩ | exact ⟨⟨X2.at 0 rfl, X2.at 1 rfl, X2.at 2 rfl⟩, Y2.at 0 rfl, Y2.at 1 rfl, Y2.at 2 rfl⟩ | exact ⟨⟨X3.at 0 rfl, X3.at 1 rfl, X3.at 2 rfl⟩, Y3.at 0 rfl, Y3.at 1 rfl, Y3.at 2 rfl⟩) (fun hHeld0 => ?_)
  refine wpAnyH_take (i := 0) (oi := ⟨some 5, _, _, _, _, _⟩) (v := ?_) rfl (by kernel_rfl) (by kernel_rfl) (by kernel_rfl) (fun _ _ _ h => h) (Or.inl ⟨by rfl, ?_⟩) hHeld0 ?_
  rotate_left
  · (intro w' hSw; (try dsimp only at hSw); go_simp; all_goals (with_reducible rfl))
  try simp only [Act.put, sA, sB, sC]
  refine wpAnyH_take (i := 1) (oi := ⟨some 6, _, _, _, _, _⟩) (v := ?_) rfl (by kernel_rfl) (by kernel_rfl) (by kernel_rfl) (fun _ _ _ h => h) (Or.inl ⟨by rfl, ?_⟩) hHeld0 ?_
  rotate_left
  · (intro w' hSw; (try dsimp only at hSw); go_simp; all_goals (with_reducible rfl))
  try simp only [Act.put, sA, sB, sC]
  refine wpAnyH_take (i := 3) (oi := ⟨some 8, _, _, _, _, _⟩) (v := ?_) rfl (by kernel_rfl) (by kernel_rfl) (by kernel_rfl) (fun _ _ _ h => h) (Or.inl ⟨by rfl, ?_⟩) hHeld0 ?_
  rotate_left
  · (intro w' hSw; (try dsimp only at hSw); go_simp; all_goals (with_reducible rfl))
  try simp only [Act.put, sA, sB, sC]
  refine wpAnyH_ready (rs := [2]) (by kernel_rfl) (by simp) (AllReadyH.cons (o := ⟨some 7, _, _, _, _, _⟩) rfl (fun K hK => ?_) AllReadyH.nil)
  go_simp
  refine (rsjoin_any ⟨⟨g, t, l⟩, A, n, c⟩ ⟨⟨g', t', l'⟩, A', n', c'⟩ w1.drew h.drew h'.drew hn hn' HR.out).mono ?_
  rintro e w2 ⟨⟨s2, A2, n2, c2⟩, rfl, hs2, hown, hb2⟩
  simp only at hs2
  subst hs2
  have hsz := HS.out
  have hb2' : Below w1.heap.size w1 w2 := (Below.refl _ _).drew.trans hb2
  have X2 := X.below hb2' (by omega)
  have Y2 := Y.below hb2' (by omega)
  have h2 := hown.srd
  have g2 := h.belowH hb2'
  have hb3 := hb.trans (hb2'.mono hb.size)
  have hn2 : n2 ≤ n + n' := by have := h2.len; have := HJL.out; simp only at *; omega
  have HSZ := Lib.hid (show w.heap.size + 2 ≤ w2.heap.size by have := hb2'.size; omega)
  clear hsz hb2 hb2' hown h h' hb y0 y1 y2 x0 x1 x2 X Y
  simp only [sv]
  go_simp
  refine hK.out _ _ (by first | exact ⟨⟨y0, y1, y2⟩, x0, x1, x2⟩ | exact ⟨⟨X2.at 0 rfl, X2.at 1 rfl, X2.at 2 rfl⟩, Y2.at 0 rfl, Y2.at 1 rfl, Y2.at 2 rfl⟩ | exact ⟨⟨X3.at 0 rfl, X3.at 1 rfl, X3.at 2 rfl⟩, Y3.at 0 rfl, Y3.at 1 rfl, Y3.at 2 rfl⟩) (fun hHeld1 => ?_)
  clear hK hHeld0 K
  try simp only [Act.put, sA, sB, sC]
  refine wpAnyH_ready (rs := [4]) (by kernel_rfl) (by simp) (AllReadyH.cons (o := ⟨some 9, _, _, _, _, _⟩) rfl (fun K hK => ?_) AllReadyH.nil)
  go_simp
  refine (rssame_any ⟨S.join ⟨g, t, l⟩ ⟨g', t', l'⟩, A2, n2, c2⟩ ⟨⟨g, t, l⟩, A, n, c⟩ w2 h2 g2 (by show n2 * 32 ≤ _; omega) (by show n * 32 ≤ _; omega)).mono ?_
  rintro e w3 ⟨rfl, hb4⟩
  have hz := HSZ.out
  have X3 := X2.below hb4 (by omega)
  have Y3 := Y2.below hb4 (by omega)
  replace hb3 := hb3.trans (hb4.mono hb3.size)
  clear hz hb4
  go_simp
  refine hK.out _ _ (by first | exact ⟨⟨y0, y1, y2⟩, x0, x1, x2⟩ | exact ⟨⟨X2.at 0 rfl, X2.at 1 rfl, X2.at 2 rfl⟩, Y2.at 0 rfl, Y2.at 1 rfl, Y2.at 2 rfl⟩ | exact ⟨⟨X3.at 0 rfl, X3.at 1 rfl, X3.at 2 rfl⟩, Y3.at 0 rfl, Y3.at 1 rfl, Y3.at 2 rfl⟩) (fun hHeld2 => ?_)
  clear hK hHeld1 K
  try simp only [Act.put, sA, sB, sC]
  refine wpAnyH_take (i := 5) (oi := ⟨some 4, _, _, _, _, _⟩) (v := ?_) rfl (by kernel_rfl) (by kernel_rfl) (by kernel_rfl) (fun _ _ _ h => h) (Or.inl ⟨by rfl, ?_⟩) hHeld2 ?_
  rotate_left
  · (intro w' hSw; (try dsimp only at hSw); go_simp; all_goals (with_reducible rfl))
  try simp only [Act.put, sA, sB, sC]
  refine wpAnyH_done (by kernel_rfl) ?_ _
  go_wp2
  go_ret
  exact ⟨rfl, hb3⟩

end Go.Proofs.Ytkabkpeamggnnaa

namespace Go.Proofs.Ytkabkpeamggnnaa
set_option linter.unusedVariables false
set_option linter.unusedSimpArgs false
open Go.RowKit

end Go.Proofs.Ytkabkpeamggnnaa

namespace Go.Proofs.Ytkabkpeamggnnaa
set_option linter.unusedVariables false
set_option linter.unusedSimpArgs false
open Go.RowKit

/-- a state that can be looked at -/
def SFit (w : World) (v : Sv) : Prop := SRd w v ∧ v.n * 32 ≤ 140737488351232 ∧ ∀ x ∈ v.s.apps, x.val.length ≤ 140737488351232
theorem SFit.belowH {w w' : World} {v : Sv} (h : SFit w v) (hb : Below w.heap.size w w') : SFit w' v := ⟨h.1.belowH hb, h.2⟩
theorem SFit.alloc {w : World} {v : Sv} (h : SFit w v) (o : Obj) : SFit (w.alloc o) v := ⟨h.1.alloc o, h.2⟩
end Go.Proofs.Ytkabkpeamggnnaa

