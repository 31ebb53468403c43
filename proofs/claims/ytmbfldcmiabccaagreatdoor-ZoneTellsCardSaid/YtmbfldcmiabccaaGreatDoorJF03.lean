/- EHelp Gen TMath TMem TRef TRef2 (merged). -/
import Derived.Test.YtmbfldcmiabccaaGreatDoorJF00
import Derived.Test.YtmbfldcmiabccaaGreatDoorJF02
namespace Go.Proofs.YtmbfldcmiabccaaGreatDoor
set_option linter.unusedVariables false
set_option linter.unusedSimpArgs false
open Go.RowKit

theorem Rd.allocH {w : World} {size n : Nat} {A : Option Addr} {xs : List Value} (h : Rd w w.heap.size size A n xs) (o : Obj) : Rd (w.alloc o) (w.alloc o).heap.size size A n xs := (h.alloc (Nat.le_refl _) o).more (by simp)
theorem lit_own (w : World) : (w.alloc (.cells #[] 48)).ownsRow w.heap.size 48 3 (.slice (some ⟨w.heap.size, 0, none⟩) 0 0) 0 [] := World.ownsRow_lit w #[] 0 (Nat.le_refl _) (by unfold maxLen; omega) rfl

end Go.Proofs.YtmbfldcmiabccaaGreatDoor

namespace Go.Proofs.YtmbfldcmiabccaaGreatDoor
set_option linter.unusedVariables false
open Go.RowKit

section
variable {α : Type} {f : α → List Value} {k : Nat}
/-- a row's cells -/
def FC (f : α → List Value) (l : List α) : List Value := l.flatMap f
theorem FC_cons (x : α) (l : List α) : FC f (x :: l) = f x ++ FC f l := rfl
theorem FC_append (l m : List α) : FC f (l ++ m) = FC f l ++ FC f m := List.flatMap_append
theorem FC_one (x : α) : FC f [x] = f x := by simp [FC]
theorem FC_length (hf : ∀ x, (f x).length = k) (l : List α) : (FC f l).length = l.length * k := by
  induction l with
  | nil => simp [FC]
  | cons x r ih => rw [FC_cons, List.length_append, ih, hf, List.length_cons, Nat.add_mul]; omega
theorem FC_drop (hf : ∀ x, (f x).length = k) (l : List α) (i : Nat) : (FC f l).drop (i * k) = FC f (l.drop i) := by
  induction i generalizing l with
  | zero => simp
  | succ i ih =>
    cases l with
    | nil => simp [FC]
    | cons x r =>
      rw [FC_cons, List.drop_succ_cons, ← ih, Nat.add_mul, Nat.one_mul, Nat.add_comm (i * k) k, ← List.drop_drop, ← hf x, List.drop_left]
theorem FC_at (hf : ∀ x, (f x).length = k) {l : List α} {i : Nat} {x : α} (h : l[i]? = some x) (j : Nat) (hj : j < k) : (FC f l)[i * k + j]? = (f x)[j]? := by
  have h1 : (FC f l)[i * k + j]? = ((FC f l).drop (i * k))[j]? := by rw [List.getElem?_drop]
  rw [h1, FC_drop hf, drop_more h, FC_cons, List.getElem?_append_left (by rw [hf]; exact hj)]
theorem Rd.lenF (hk : 0 < k) (hf : ∀ x, (f x).length = k) {w : World} {B n : Nat} {A : Option Addr} {l : List α} (h : Rd w B k A n (FC f l)) : l.length = n := by
  have h1 := h.1
  rw [FC_length hf] at h1
  exact Nat.eq_of_mul_eq_mul_right hk h1
/-- an element that is read -/
theorem Rd.atF (hk : 0 < k) (hf : ∀ x, (f x).length = k) {w : World} {B n : Nat} {A : Option Addr} {l : List α} (h : Rd w B k A n (FC f l)) {i : Nat} (hi : i < n) :
    ∃ b o x, A = some ⟨b, o, none⟩ ∧ b < B ∧ l[i]? = some x ∧ ∀ j v, (f x)[j]? = some v → w.cell? ⟨b, o + (i * k + j), none⟩ = some v := by
  obtain ⟨b, o, e, hb, hc⟩ := h.2 (by omega)
  have hn := h.lenF hk hf
  have hx : l[i]? = some (l[i]'(by omega)) := List.getElem?_eq_getElem _
  refine ⟨b, o, _, e, hb, hx, fun j v hv => ?_⟩
  have hj : j < k := by have := (List.getElem?_eq_some_iff.1 hv).1; rwa [hf] at this
  have hlt : i * k + j < (FC f l).length := by
    rw [FC_length hf, hn]
    have : (i + 1) * k ≤ n * k := Nat.mul_le_mul_right k hi
    rw [Nat.add_mul] at this
    omega
  rw [hc _ hlt, FC_at hf hx j hj, hv]
end
end Go.Proofs.YtmbfldcmiabccaaGreatDoor

namespace Go.Proofs.YtmbfldcmiabccaaGreatDoor
set_option linter.unusedSimpArgs false

/-- a state's parts -/
structure St where
  gen : Int
  beat : Int
  apps : List Ent
deriving DecidableEq

namespace S
def right (s : St) : Prop := 1 ≤ s.gen ∧ s.gen ≤ 1099511627776 ∧ 0 ≤ s.beat ∧ s.beat ≤ 1099511627776 ∧ E.right s.apps
def join (a b : St) : St := if b.gen < a.gen then a else if a.gen < b.gen then b else ⟨a.gen, max a.beat b.beat, E.join a.apps b.apps⟩
def over (a b : St) : Prop := join a b = a
def above (s : St) (v : Int) : St := ⟨s.gen, s.beat, E.aboves s.apps v⟩
/-- its table is of rising keys -/
def rise (s : St) : Prop := E.rising s.apps

/-! ### Tops -/
/-! ### What is set, what beats -/
def put (s : St) (x : Ent) : St := ⟨s.gen, s.beat, E.put s.apps x⟩
/-! ### Parts -/
def lows (l : List Ent) (v : Int) : List Ent := l.filter fun x => decide (x.ver ≤ v)
end S
end Go.Proofs.YtmbfldcmiabccaaGreatDoor

namespace Go.Proofs.YtmbfldcmiabccaaGreatDoor
set_option linter.unusedVariables false
open Go.RowKit

/-- a state's value: what it is, and where its table lies -/
structure Sv where
  s : St
  A : Option Addr
  n : Nat
  c : Nat
def scl (v : Sv) : List Value := [.int .i64 v.s.gen, .int .i64 v.s.beat, .slice v.A v.n v.c]
/-- a state's value -/
def sv (v : Sv) : Value := .agg #[.int .i64 v.s.gen, .int .i64 v.s.beat, .slice v.A v.n v.c]
/-- its table reads -/
def SRd (w : World) (v : Sv) : Prop := Rd w w.heap.size 3 v.A v.n (EC v.s.apps)
theorem SRd.belowH {w w' : World} {v : Sv} (h : SRd w v) (hb : Below w.heap.size w w') : SRd w' v := Rd.belowH h hb
theorem SRd.alloc {w : World} {v : Sv} (h : SRd w v) (o : Obj) : SRd (w.alloc o) v := (Rd.alloc h (Nat.le_refl _) o).more (by simp)
theorem SRd.allocH {w : World} {v : Sv} (h : SRd w v) (o : Obj) : SRd (w.alloc o) v := h.alloc o
theorem SRd.drew {w : World} {v : Sv} (h : SRd w v) : SRd w.drew v := h
theorem SRd.drewN {w : World} {v : Sv} (h : SRd w v) (q : Nat) : SRd (w.drewN q) v := h
theorem SRd.len {w : World} {v : Sv} (h : SRd w v) : v.s.apps.length = v.n := Rd.lenE h
/-- a state that came in -/
def SIn (W : World) (v : Sv) : Prop := SRd W v ∧ v.n * 32 ≤ 140737488351232 ∧ (∀ x ∈ v.s.apps, x.val.length ≤ 140737488351232) ∧ (Lit.int .i64 v.s.gen).wf = true ∧ (Lit.int .i64 v.s.beat).wf = true
end Go.Proofs.YtmbfldcmiabccaaGreatDoor

namespace Go.Proofs.YtmbfldcmiabccaaGreatDoor
set_option linter.unusedVariables false
set_option linter.unusedSimpArgs false
open Go.RowKit

noncomputable def srightB (s : St) : Bool := decide (1 ≤ s.gen) && decide (s.gen ≤ 1099511627776) && decide (0 ≤ s.beat) && decide (s.beat ≤ 1099511627776) && rightB s.apps
theorem srightB_out {s : St} (h : srightB s = true) : S.right s := by
  unfold srightB at h
  simp only [Bool.and_eq_true, decide_eq_true_eq] at h
  obtain ⟨⟨⟨⟨h1, h2⟩, h3⟩, h4⟩, h5⟩ := h
  exact ⟨h1, h2, h3, h4, rightB_out h5⟩
theorem srightB_yes {s : St} (h : S.right s) : srightB s = true := by
  obtain ⟨h1, h2, h3, h4, h5⟩ := h
  unfold srightB
  simp [h1, h2, h3, h4, rightB_yes h5]
theorem srightB_no {s : St} (h : ¬ S.right s) : srightB s = false := by
  rcases h2 : srightB s
  · rfl
  · exact absurd (srightB_out h2) h

theorem own_set {w : World} {base b o : Nat} {e : TypeId} {size n : Nat} {v : Value} {xs : List Value} (h : w.ownsRow base e size v n xs) (hb : b < base) (u : Value) : (w.setCell ⟨b, o, none⟩ u).ownsRow base e size v n xs := ownsRow_setCell_below h hb u
/-- its table is the call's own -/
def SOwn (base : Nat) (w : World) (v : Sv) : Prop := w.ownsRow base 48 3 (.slice v.A v.n v.c) v.n (EC v.s.apps)
/-- a state that was made -/
def MadeS (W : World) (s : St) (e : Ending) (w' : World) : Prop :=
  ∃ v : Sv, e = .returned (sv v) ∧ v.s = s ∧ SOwn W.heap.size w' v ∧ Below W.heap.size W w'
set_option maxHeartbeats 1000000 in
theorem rsright_any (v : Sv) (w : World) (h : SRd w v) (hn : v.n * 32 ≤ 140737488351232) :
    Calls Tryz.prog 21 #[sv v] w fun e w' => e = .returned (.bool (srightB v.s)) ∧ Below w.heap.size w w' := by
  obtain ⟨⟨g, t, l⟩, A, n, c⟩ := v
  simp only [sv]
  have h1 := (h.alloc (.cells #[.int .i64 g, .int .i64 t, .slice A n c] 51))
  have b1 : Below w.heap.size w (w.alloc (.cells #[.int .i64 g, .int .i64 t, .slice A n c] 51)) := (Below.refl _ _).alloc (Nat.le_refl _) _
  unfold SRd at h1
  simp only at h1 hn
  have HF : ∀ {p : Prop}, ¬ p → (srightB ⟨g, t, l⟩ = false ∨ True) := fun _ => Or.inr trivial
  clear HF h
  by_cases e1 : 1 ≤ g
  · by_cases e2 : g ≤ 1099511627776
    · by_cases e3 : 0 ≤ t
      · by_cases e4 : t ≤ 1099511627776
        · have hs : srightB ⟨g, t, l⟩ = rightB l := by unfold srightB; simp [e1, e2, e3, e4]
          have HS := Lib.hid hs
          clear hs
          go_enter Tryz.func21, Tryz.ntmps21
          go_wp2_with fail
          refine (rright_any l A n c _ _ h1 (Nat.le_refl _) hn).mono ?_
          rintro e w2 ⟨rfl, hb⟩
          go_wp2
          go_ret
          exact ⟨ret_bool HS.out.symm, b1.trans (hb.mono b1.size)⟩
        · have hs : srightB ⟨g, t, l⟩ = false := srightB_no fun h => e4 h.2.2.2.1
          have HS := Lib.hid hs
          clear hs
          go_enter Tryz.func21, Tryz.ntmps21
          go_wp2
          go_ret
          exact ⟨ret_bool HS.out.symm, b1⟩
      · have hs : srightB ⟨g, t, l⟩ = false := srightB_no fun h => e3 h.2.2.1
        have HS := Lib.hid hs
        clear hs
        go_enter Tryz.func21, Tryz.ntmps21
        go_wp2
        go_ret
        exact ⟨ret_bool HS.out.symm, b1⟩
    · have hs : srightB ⟨g, t, l⟩ = false := srightB_no fun h => e2 h.2.1
      have HS := Lib.hid hs
      clear hs
      go_enter Tryz.func21, Tryz.ntmps21
      go_wp2
      go_ret
      exact ⟨ret_bool HS.out.symm, b1⟩
  · have hs : srightB ⟨g, t, l⟩ = false := srightB_no fun h => e1 h.1
    have HS := Lib.hid hs
    clear hs
    go_enter Tryz.func21, Tryz.ntmps21
    go_wp2
    go_ret
    exact ⟨ret_bool HS.out.symm, b1⟩

end Go.Proofs.YtmbfldcmiabccaaGreatDoor

namespace Go.Proofs.YtmbfldcmiabccaaGreatDoor
set_option linter.unusedVariables false
set_option linter.unusedSimpArgs false
open Go.RowKit

theorem below2 (w : World) (o o' : Obj) : Below w.heap.size w ((w.alloc o).alloc o') := ((Below.refl _ _).alloc (Nat.le_refl _) _).alloc (by simp) _
theorem rsgreat_any (v : Sv) (w : World) (h : SRd w v) (hn : v.n * 32 ≤ 140737488351232) (hv : ∀ x ∈ v.s.apps, x.val.length ≤ 140737488351232) :
    Calls Tryz.prog 50 #[sv v] w fun e w' => e = .returned (.bool (E.great v.s.apps)) ∧ Below w.heap.size w w' := by
  obtain ⟨⟨g, t, l⟩, A, n, c⟩ := v
  simp only [sv]
  have h1 := h.alloc (.cells #[.int .i64 g, .int .i64 t, .slice A n c] 51)
  have b1 : Below w.heap.size w (w.alloc (.cells #[.int .i64 g, .int .i64 t, .slice A n c] 51)) := (Below.refl _ _).alloc (Nat.le_refl _) _
  unfold SRd at h1
  simp only at h1 hn
  clear h
  have HV := Lib.hid hv
  clear hv
  go_enter Tryz.func50, Tryz.ntmps50
  go_wp2_with fail
  refine (rgreat_any l A n c _ _ h1 (by omega) HV.out).mono ?_
  rintro e w2 ⟨rfl, rfl⟩
  go_wp2
  go_ret
  exact ⟨rfl, b1⟩

set_option maxHeartbeats 1000000 in
theorem rscopy_any (v : Sv) (w : World) (h : SRd w v) (hn : v.n ≤ 1000000) :
    Calls Tryz.prog 71 #[sv v] w (MadeS w v.s) := by
  obtain ⟨⟨g, t, l⟩, A, n, c⟩ := v
  simp only [sv]
  have hl := h.len
  have HL := Lib.hid hl
  have X := (Box.new w #[.int .i64 g, .int .i64 t, .slice A n c] 51).alloc (.cells #[.int .i64 0, .int .i64 0, .slice none 0 0] 51)
  have Z := Box.new (w.alloc (.cells #[.int .i64 g, .int .i64 t, .slice A n c] 51)) #[.int .i64 0, .int .i64 0, .slice none 0 0] 51
  rw [show (w.alloc (.cells #[.int .i64 g, .int .i64 t, .slice A n c] 51)).heap.size = w.heap.size + 1 by simp] at Z
  have hb := below2 w (.cells #[.int .i64 g, .int .i64 t, .slice A n c] 51) (.cells #[.int .i64 0, .int .i64 0, .slice none 0 0] 51)
  have h1 := (h.alloc (.cells #[.int .i64 g, .int .i64 t, .slice A n c] 51)).alloc (.cells #[.int .i64 0, .int .i64 0, .slice none 0 0] 51)
  have hs : ((w.alloc (.cells #[.int .i64 g, .int .i64 t, .slice A n c] 51)).alloc (.cells #[.int .i64 0, .int .i64 0, .slice none 0 0] 51)).heap.size = w.heap.size + 2 := by simp
  have HS := Lib.hid hs
  unfold SRd at h1
  simp only at h1 hn
  clear h hs hl
  go_enter Tryz.func71, Tryz.ntmps71
  generalize hw1 : (w.alloc (.cells #[.int .i64 g, .int .i64 t, .slice A n c] 51)).alloc (.cells #[.int .i64 0, .int .i64 0, .slice none 0 0] 51) = w1 at X Z hb h1 HS
  have HW1 := Lib.hid hw1
  clear hw1
  have X1 := X.alloc (.cells #[] 48)
  have x2 := X1.at 2 rfl
  have hlit : (w1.alloc (.cells #[] 48)).ownsRow w1.heap.size 48 3 (.slice (some ⟨w.heap.size + 1 + 1, 0, none⟩) 0 0) 0 [] := by
    rw [show w.heap.size + 1 + 1 = w1.heap.size from HS.out.symm]; exact lit_own w1
  have HLIT := Lib.hid hlit
  clear hlit
  go_wp2_with (at_builtin; rw [HW1.out]; refine app_law0 enT rfl (.tmp 3) (.tmp 5) rfl w1.heap.size rfl HLIT.out rfl (h1.alloc (Nat.le_refl _) _) (EC_one l) (by omega) (by omega) (by simp) ?_; rintro A2 c2 w2 ⟨hown, hg2, _, _⟩; have hb2 : Below w1.heap.size w1 w2 := below_app ((Below.refl _ _).alloc (Nat.le_refl _) _) HLIT.out hg2 (Nat.le_refl _) (by simp); have X2 := X.below hb2 (by have := HS.out; omega); have Z2 := Z.below hb2 (by have := HS.out; omega); have y0 := X2.at 0 rfl; have y1 := X2.at 1 rfl; have y2 := X2.at 2 rfl; have yf := X2.cold; have z0 := Z2.at 0 rfl; have z1 := Z2.at 1 rfl; have z2 := Z2.at 2 rfl; have zf := Z2.cold; have z := Z2.lt; have hb3 := hb.trans (hb2.mono hb.size); clear hg2 hb2 x2)
  refine bodyPost_ret (v := sv ⟨⟨g, t, l⟩, A2, n, c2⟩) (by simp [results, Tryz.results71, go_sem, y0, y1, y2, z0, z1, z2, z, sv]; try rfl) rfl ?_
  refine ⟨⟨⟨g, t, l⟩, A2, n, c2⟩, rfl, rfl, ?_, ?_⟩
  · show World.ownsRow _ _ _ 3 (.slice A2 n c2) n (EC l)
    refine own_mono (base := w1.heap.size) ?_ (by have := HS.out; omega)
    have hs2 := HS.out
    rw [List.nil_append] at hown
    repeat (first | (with_reducible exact hown) | (with_reducible refine own_set ?_ (by omega) _))
  · repeat (first | (with_reducible exact hb3) | (with_reducible refine below_set ?_ (by omega) _))
end Go.Proofs.YtmbfldcmiabccaaGreatDoor

