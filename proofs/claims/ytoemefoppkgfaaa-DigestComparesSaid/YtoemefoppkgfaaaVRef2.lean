/- The reference's Get, Without on views. -/
import Derived.Test.YtoemefoppkgfaaaVRef
namespace Go.Proofs.Ytoemefoppkgfaaa
set_option linter.unusedVariables false
set_option linter.unusedSimpArgs false
open Go.RowKit

theorem vget_at {l : List Nv} {i : Nat} {x : Nv} {k : Int} (h : l[i]? = some x) (hk : x.node = k) (hno : ∀ y ∈ l.take i, y.node ≠ k) : V.get (l.map Nv.nm) k = some x.v.s := by
  induction l generalizing i with
  | nil => simp at h
  | cons y r ih =>
    rw [List.map_cons, V.get_cons]
    cases i with
    | zero =>
      obtain rfl : y = x := by simpa using h
      rw [if_pos (show (Nv.nm y).node = k from hk)]; rfl
    | succ i =>
      have h1 : y.node ≠ k := hno y (by rw [List.take_succ_cons]; exact List.mem_cons_self ..)
      rw [if_neg (show ¬ (Nv.nm y).node = k from h1)]
      exact ih (by simpa using h) (fun z hz => hno z (by rw [List.take_succ_cons]; exact List.mem_cons_of_mem _ hz))
theorem vget_none {l : List Nv} {k : Int} (hno : ∀ y ∈ l, y.node ≠ k) : V.get (l.map Nv.nm) k = none := by
  induction l with
  | nil => rfl
  | cons y r ih =>
    rw [List.map_cons, V.get_cons, if_neg (show ¬ (Nv.nm y).node = k from hno y (List.mem_cons_self ..))]
    exact ih fun z hz => hno z (List.mem_cons_of_mem _ hz)
/-- a state, and whether it is there -/
def MadeG (W : World) (r : Option St) (e : Ending) (w' : World) : Prop :=
  ∃ v : Sv, e = .returned (.tuple #[sv v, .bool r.isSome]) ∧ v.s = r.getD ⟨0, 0, []⟩ ∧ SRd w' v ∧ Below W.heap.size W w'
/-- .. and its table lies in a block of its own -/
def MadeGF (W : World) (r : Option St) (e : Ending) (w' : World) : Prop :=
  ∃ v : Sv, e = .returned (.tuple #[sv v, .bool r.isSome]) ∧ v.s = r.getD ⟨0, 0, []⟩ ∧ (SRd w' v ∧ Fresh W.heap.size v) ∧ Below W.heap.size W w'

set_option maxHeartbeats 2000000 in
set_option maxRecDepth 20000 in
theorem rvgetF_any (U : Vw) (node : Int) (w : World) (h : VRd w U) (hn : U.n ≤ 1000) (hf : VFit U) :
    Calls Try.prog 23 #[vval U, .int .i64 node] w (MadeGF w (V.get U.view node)) := by
  obtain ⟨l, A, n, c⟩ := U
  have hl := h.len
  simp only at hn hl hf
  have HL := Lib.hid hl
  have HF := Lib.hid hf
  clear hl hf
  simp only [vval]
  have Z := Box.new w #[.int .i64 0, .int .i64 0, .slice none 0 0] 37
  have b1 : Below w.heap.size w (w.alloc (.cells #[.int .i64 0, .int .i64 0, .slice none 0 0] 37)) := (Below.refl _ _).alloc (Nat.le_refl _) _
  have h1 := h.allocH (.cells #[.int .i64 0, .int .i64 0, .slice none 0 0] 37)
  have hs1 : w.heap.size < (w.alloc (.cells #[.int .i64 0, .int .i64 0, .slice none 0 0] 37)).heap.size := by simp
  have hat : ∀ k, k < n → _ := fun k hk => h.at hk
  have HAT := Lib.hid hat
  clear h hat
  go_enter Try.func23, Try.ntmps23
  go_wp2_with fail
  generalize w.alloc (.cells #[.int .i64 0, .int .i64 0, .slice none 0 0] 37) = w1 at *
  have z0 := Z.at 0 rfl
  have z1 := Z.at 1 rfl
  have z2 := Z.at 2 rfl
  have zf := Z.cold
  go_loop [6] (fun i => ∃ k : Nat, k ≤ n ∧ i = .int .i64 k ∧ ∀ y ∈ l.take k, y.node ≠ node) (fun i => n - (intOf i).toNat)
  case atStart => exact ⟨0, by omega, rfl, by simp⟩
  case round =>
    obtain ⟨k, hk, rfl, hno⟩ := hrel
    have HN := Lib.hid hno
    clear hno
    by_cases hlt : k < n
    · obtain ⟨b, o, x, e1, hb, hx, hsr, c0, c1', c2, c3⟩ := h1.at hlt
      simp only at e1 hx
      subst e1
      have hk0 : (0 : Int) ≤ (k : Int) := by omega
      have hfx := HF.out x (List.mem_of_getElem? hx)
      have HX := Lib.hid hx
      clear hx
      by_cases he : x.node = node
      · have hg := vget_at HX.out he HN.out
        have HG := Lib.hid hg
        have t1 : (x.node == node) = true := beq_iff_eq.2 he
        clear hg he
        go_wp2_with fail
        refine (rscopy_any x.v _ hsr (by omega)).mono ?_
        rintro e w2 ⟨⟨s2, A2, n2, c2'⟩, rfl, hs2, hown, hb2⟩
        simp only at hs2
        subst hs2
        have Z2 := Z.below hb2 hs1
        have y0 := Z2.at 0 rfl
        have y1 := Z2.at 1 rfl
        have y2 := Z2.at 2 rfl
        have yf := Z2.cold
        have yz := Z2.lt
        have hb3 := b1.trans (hb2.mono b1.size)
        have hown' : w2.ownsRow w1.heap.size 57 3 (.slice A2 n2 c2') n2 (EC x.v.s.apps) := hown
        clear hb2 z0 z1 z2 zf c0 c1' c2 c3 hown
        simp only [sv]
        go_wp2
        refine bodyPost_ret (v := .tuple #[sv ⟨x.v.s, A2, n2, c2'⟩, .bool true]) (by simp [results, Try.results23, go_sem, y0, y1, y2, yz, sv]; try rfl) rfl ?_
        refine ⟨⟨x.v.s, A2, n2, c2'⟩, ?_, ?_, ?_, ?_⟩
        · rw [show V.get (Vw.view ⟨l, some ⟨b, o, none⟩, n, c⟩) node = some x.v.s from HG.out]; rfl
        · rw [show V.get (Vw.view ⟨l, some ⟨b, o, none⟩, n, c⟩) node = some x.v.s from HG.out]; rfl
        · refine ⟨?_, fresh_own (v := ⟨x.v.s, A2, n2, c2'⟩) hown' (by omega)⟩
          refine Rd.of_own (base := w1.heap.size) (e := 57) (c := c2') ?_
          show World.ownsRow _ _ _ 3 (.slice A2 n2 c2') n2 (EC x.v.s.apps)
          repeat (first | (with_reducible exact hown') | (with_reducible refine own_set ?_ (by omega) _))
        · repeat (first | (with_reducible exact hb3) | (with_reducible refine below_set ?_ (by omega) _))
      · have t1 : (x.node == node) = false := beq_eq_false_iff_ne.2 he
        have HE := Lib.hid he
        clear he
        go_wp2
        go_round
        case rel =>
          refine ⟨k + 1, by omega, by go_num, fun y hy => ?_⟩
          rw [take_more HX.out] at hy
          rcases List.mem_append.1 hy with hy | hy
          · exact HN.out y hy
          · obtain rfl : y = x := by simpa using hy
            exact HE.out
        case measure => simp [intOf]; omega
    · have hg : V.get (l.map Nv.nm) node = none := vget_none (by have := HN.out; rwa [List.take_of_length_le (by have := HL.out; omega)] at this)
      have HG := Lib.hid hg
      have zz := Z.lt
      clear hg
      go_wp2
      refine bodyPost_ret (v := .tuple #[sv ⟨⟨0, 0, []⟩, none, 0, 0⟩, .bool false]) (by simp [results, Try.results23, go_sem, z0, z1, z2, zz, sv]; try rfl) rfl ?_
      refine ⟨⟨⟨0, 0, []⟩, none, 0, 0⟩, ?_, ?_, ⟨Rd.zero _ _ _ _, fresh_zero _ _ _ _⟩, ?_⟩
      · rw [show V.get (Vw.view ⟨l, A, n, c⟩) node = none from HG.out]; rfl
      · rw [show V.get (Vw.view ⟨l, A, n, c⟩) node = none from HG.out]; rfl
      · repeat (first | (with_reducible exact b1) | (with_reducible refine below_set ?_ (by omega) _))

theorem rvget_any (U : Vw) (node : Int) (w : World) (h : VRd w U) (hn : U.n ≤ 1000) (hf : VFit U) :
    Calls Try.prog 23 #[vval U, .int .i64 node] w (MadeG w (V.get U.view node)) :=
  (rvgetF_any U node w h hn hf).mono fun e w' ⟨v, h1, h2, h3, h4⟩ => ⟨v, h1, h2, h3.1, h4⟩

def off (node : Int) (l : List Nv) : List Nv := l.filter fun x => !(x.node == node)
theorem off_view (node : Int) (l : List Nv) : (off node l).map Nv.nm = V.without (l.map Nv.nm) node := by
  unfold off V.without
  rw [List.filter_map]
  rfl
theorem off_more {node : Int} {l : List Nv} {k : Nat} {x : Nv} (h : l[k]? = some x) : off node (l.take (k + 1)) = if x.node = node then off node (l.take k) else off node (l.take k) ++ [x] := by
  unfold off
  rw [take_more h, List.filter_append]
  by_cases hx : x.node = node <;> simp [hx]

set_option maxHeartbeats 2000000 in
set_option maxRecDepth 20000 in
theorem rvwithout_any (U : Vw) (node : Int) (w : World) (h : VRd w U) (hn : U.n ≤ 1000) (hf : VFit U) :
    Calls Try.prog 27 #[vval U, .int .i64 node] w (MadeV w (V.without U.view node)) := by
  obtain ⟨l, A, n, c⟩ := U
  have hl := h.len
  simp only at hn hl hf
  have HL := Lib.hid hl
  have HF := Lib.hid hf
  clear hl hf
  simp only [vval]
  go_enter Try.func27, Try.ntmps27
  go_wp2
  go_loopw [5, 6] (fun s i wr => ∃ (k m : Nat) (A1 : Option Addr) (c1 : Nat), k ≤ n ∧ m ≤ k ∧ i = .int .i64 k ∧ s = .slice A1 m c1 ∧ m = (off node (l.take k)).length ∧
    wr.ownsRow w.heap.size 39 4 (.slice A1 m c1) m (FC ncl (off node (l.take k))) ∧ Below w.heap.size w wr) (fun _ i _ => n - (intOf i).toNat)
  case atStart => exact ⟨0, 0, none, 0, by omega, by omega, rfl, rfl, rfl, World.ownsRow_nil _ _ _ _, Below.refl _ _⟩
  case round =>
    obtain ⟨k, m, A1, c1, hk, hmk, rfl, rfl, hm, hown, hbel⟩ := hrel
    have HM := Lib.hid hm
    have hbs := hbel.size
    clear hm
    by_cases hlt : k < n
    · obtain ⟨b, o, x, e1, hb, hx, hsr, c0, c1', c2, c3⟩ := (h.belowH hbel).at hlt
      simp only at e1 hx
      subst e1
      have hk0 : (0 : Int) ≤ (k : Int) := by omega
      have hmore := off_more (node := node) hx
      have HX := Lib.hid hx
      clear hx hsr
      by_cases he : x.node = node
      · have t1 : (x.node != node) = false := bne_eq_false_iff_eq.2 he
        rw [if_pos he] at hmore
        have HMORE := Lib.hid hmore
        clear hmore he
        go_wp2
        go_roundw
        case rel => exact ⟨k + 1, m, A1, c1, by omega, by omega, by go_num, rfl, by rw [HMORE.out]; exact HM.out, by rw [HMORE.out]; exact hown, hbel⟩
        case measure => simp [intOf]; omega
      · have t1 : (x.node != node) = true := bne_iff_ne.2 he
        rw [if_neg he] at hmore
        have HMORE := Lib.hid hmore
        clear hmore he
        go_wp2_with (refine pushF_law (f := ncl) (y := x) nmT ncl_len ncl_one rfl (.tmp 20) (.tmp 25) rfl w.heap.size rfl rfl rfl hown (by omega) (by omega) hbs ?_; rintro A2 c2' w2 hown2 hb2 _)
        go_roundw
        case rel => exact ⟨k + 1, m + 1, A2, c2', by omega, by omega, by go_num, rfl, by rw [HMORE.out, List.length_append, ← HM.out]; rfl, by rw [HMORE.out]; exact hown2, hbel.trans hb2⟩
        case measure => simp [intOf]; omega
    · have he : l.take k = l := List.take_of_length_le (by have := HL.out; omega)
      rw [he] at hown
      have hvr : VRd wr ⟨off node l, A1, m, c1⟩ := ⟨Rd.of_own hown, fun x hx => ((h.belowH hbel).2 x (List.mem_filter.1 hx).1)⟩
      have hvf : VFit ⟨off node l, A1, m, c1⟩ := fun x hx => HF.out x (List.mem_filter.1 hx).1
      clear he hown
      go_wp2_with fail
      refine (rvcopy_any ⟨off node l, A1, m, c1⟩ wr hvr (by show m ≤ _; omega) hvf).mono ?_
      rintro e w2 ⟨V2, rfl, hv, hown2, hb2⟩
      have HV : Hid (V2.view = V.without (Vw.view ⟨l, A, n, c⟩) node) := Lib.hid (hv.trans (off_view node l))
      clear hv
      go_wp2
      go_ret
      exact ⟨V2, rfl, HV.out, hown2.mono hbs, hbel.trans (hb2.mono hbs)⟩
theorem vfit_apps {w : World} {U : Vw} (h : VRd w U) (hf : VFit U) {x : Nm} (hx : x ∈ U.view) : x.st.apps.length ≤ 4000 := by
  obtain ⟨y, hy, rfl⟩ := List.mem_map.1 hx
  have h1 := (h.2 y hy).len
  have h2 := hf y hy
  show y.v.s.apps.length ≤ _
  omega
/-- a view all of whose endpoints' states stand in one that is short is short -/
theorem vfit_of_view {w w' : World} {U U' : Vw} (h : VRd w U) (h' : VRd w' U') (hf : VFit U) (hs : ∀ x ∈ U'.view, x ∈ U.view) : VFit U' := fun y hy => by
  have h1 := vfit_apps h hf (hs y.nm (List.mem_map.2 ⟨y, hy, rfl⟩))
  have h2 := (h'.2 y hy).len
  have h3 : y.v.s.apps.length ≤ 4000 := h1
  omega
theorem vget_short {w : World} {U : Vw} (h : VRd w U) (hf : VFit U) {k : Int} (o : Option St) (ho : V.get U.view k = o) : (o.getD ⟨0, 0, []⟩).apps.length ≤ 4000 := by
  rcases o with _ | s
  · show (0 : Nat) ≤ _; omega
  · exact vfit_apps h hf (V.get_mem ho)
end Go.Proofs.Ytoemefoppkgfaaa
