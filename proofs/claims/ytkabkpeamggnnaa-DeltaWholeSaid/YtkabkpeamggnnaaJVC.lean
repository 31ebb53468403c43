/- VC1 VC2 VC3 VC5 VC4 VC6 (merged). -/
import Derived.Shelf.Abstract
import Derived.Test.YtkabkpeamggnnaaJVRef
import Derived.Test.YtkabkpeamggnnaaJVRef6
import Derived.Test.YtkabkpeamggnnaaJTCode
namespace Go.Proofs.Ytkabkpeamggnnaa
set_option linter.unusedVariables false
set_option linter.unusedSimpArgs false
open Go.RowKit

/-- an endpoint's state as a value -/
def nv (x : Nv) : Value := .agg #[.int .i64 x.node, .int .i64 x.v.s.gen, .int .i64 x.v.s.beat, .slice x.v.A x.v.n x.v.c]
/-- a predicate on endpoints that captures one variable, in whatever later world -/
def MeantN (base g : Nat) (cp : Array Value) (q : Int → Bool) (w : World) : Prop :=
  ∀ (x : Nv) (W : World), Below base w W → Calls Try.prog g (#[nv x] ++ cp) W fun e w' => e = .returned (.bool (q x.node)) ∧ Below W.heap.size W w'
theorem vegGet : ∀ args w, (callFunc 59 args).run Try.prog w = .ok (.enter 59 args) w := enters_of Try.func59 (by kernel_rfl) rfl
theorem vegLt : ∀ args w, (callFunc 79 args).run Try.prog w = .ok (.enter 79 args) w := enters_of Try.func79 (by kernel_rfl) rfl
theorem vegGt : ∀ args w, (callFunc 80 args).run Try.prog w = .ok (.enter 80 args) w := enters_of Try.func80 (by kernel_rfl) rfl
theorem vegAll : ∀ args w, (callFunc 67 args).run Try.prog w = .ok (.enter 67 args) w := enters_of Try.func67 (by kernel_rfl) rfl
theorem vmeant_all {base : Nat} {w : World} : MeantN base 67 #[] (fun _ => true) w := fun x W hbel => by
  simp only [nv, Array.append_empty]
  go_enter Try.func67, Try.ntmps67
  go_wp2
  go_ret
  exact ⟨rfl, (Below.refl _ _).alloc (Nat.le_refl _) _⟩
theorem vmeant_get {base b : Nat} {node : Int} {w : World} (hb : b < base) (hw : base ≤ w.heap.size) (hc : w.cell? ⟨b, 0, none⟩ = some (.int .i64 node)) : MeantN base 59 #[.pointer (some ⟨b, 0, none⟩)] (fun y => y == node) w := fun x W hbel => by
  have h1 := (hbel.cell (p := ⟨b, 0, none⟩) hb).trans hc
  have h2 := (World.cell?_alloc_lt W (.cells #[.int .i64 x.node, .int .i64 x.v.s.gen, .int .i64 x.v.s.beat, .slice x.v.A x.v.n x.v.c] 49) ⟨b, 0, none⟩ (by have := hbel.size; show b < _; omega)).trans h1
  clear h1 hc
  show Calls Try.prog 59 #[nv x, .pointer (some ⟨b, 0, none⟩)] W _
  simp only [nv]
  go_enter Try.func59, Try.ntmps59
  go_wp2
  go_ret
  exact ⟨rfl, (Below.refl _ _).alloc (Nat.le_refl _) _⟩
theorem vmeant_lt {base b : Nat} {node : Int} {w : World} (hb : b < base) (hw : base ≤ w.heap.size) (hc : w.cell? ⟨b, 0, none⟩ = some (.int .i64 node)) : MeantN base 79 #[.pointer (some ⟨b, 0, none⟩)] (fun y => decide (y < node)) w := fun x W hbel => by
  have h1 := (hbel.cell (p := ⟨b, 0, none⟩) hb).trans hc
  have h2 := (World.cell?_alloc_lt W (.cells #[.int .i64 x.node, .int .i64 x.v.s.gen, .int .i64 x.v.s.beat, .slice x.v.A x.v.n x.v.c] 49) ⟨b, 0, none⟩ (by have := hbel.size; show b < _; omega)).trans h1
  clear h1 hc
  show Calls Try.prog 79 #[nv x, .pointer (some ⟨b, 0, none⟩)] W _
  simp only [nv]
  go_enter Try.func79, Try.ntmps79
  go_wp2
  go_ret
  exact ⟨rfl, (Below.refl _ _).alloc (Nat.le_refl _) _⟩
theorem vmeant_gt {base b : Nat} {node : Int} {w : World} (hb : b < base) (hw : base ≤ w.heap.size) (hc : w.cell? ⟨b, 0, none⟩ = some (.int .i64 node)) : MeantN base 80 #[.pointer (some ⟨b, 0, none⟩)] (fun y => decide (node < y)) w := fun x W hbel => by
  have h1 := (hbel.cell (p := ⟨b, 0, none⟩) hb).trans hc
  have h2 := (World.cell?_alloc_lt W (.cells #[.int .i64 x.node, .int .i64 x.v.s.gen, .int .i64 x.v.s.beat, .slice x.v.A x.v.n x.v.c] 49) ⟨b, 0, none⟩ (by have := hbel.size; show b < _; omega)).trans h1
  clear h1 hc
  show Calls Try.prog 80 #[nv x, .pointer (some ⟨b, 0, none⟩)] W _
  simp only [nv]
  go_enter Try.func80, Try.ntmps80
  go_wp2
  go_ret
  exact ⟨rfl, (Below.refl _ _).alloc (Nat.le_refl _) _⟩
/-- where the first one is whose endpoint is meant -/
def FoundN (q : Int → Bool) (l : List Nv) (i : Int) : Prop :=
  (i = -1 ∧ ∀ y ∈ l, q y.node = false) ∨ ∃ (k : Nat) (x : Nv), i = k ∧ l[k]? = some x ∧ q x.node = true ∧ ∀ y ∈ l.take k, q y.node = false

set_option maxHeartbeats 1000000 in
theorem vidx_any (U : Vw) (q : Int → Bool) (g : Nat) (bp : Value) (eg : ∀ args w, (callFunc g args).run Try.prog w = .ok (.enter g args) w) (w : World) (h : VRd w U) (hn : U.n ≤ 1000) (hp : MeantN w.heap.size g #[bp] q w) :
    Calls Try.prog 58 #[vval U, .func (.func g) #[] #[bp]] w fun e w' => (∃ i, e = .returned (.int .i64 i) ∧ FoundN q U.l i) ∧ Below w.heap.size w w' := by
  obtain ⟨l, A, n, c⟩ := U
  have hl := h.len
  simp only at hn hl
  have HL := Lib.hid hl
  have HP := Lib.hid hp
  clear hl hp
  simp only [vval]
  go_enter Try.func58, Try.ntmps58
  go_wp2
  go_loopw [8] (fun i wr => ∃ k : Nat, k ≤ n ∧ i = .int .i64 k ∧ (∀ y ∈ l.take k, q y.node = false) ∧ Below w.heap.size w wr) (fun i _ => n - (intOf i).toNat)
  case atStart => exact ⟨0, by omega, rfl, by simp, Below.refl _ _⟩
  case round =>
    obtain ⟨k, hk, rfl, hno, hbel⟩ := hrel
    have HN := Lib.hid hno
    have hbs := hbel.size
    clear hno
    by_cases hlt : k < n
    · obtain ⟨b, o, x, e1, hb, hx, hsx, c0, c1, c2, c3⟩ := (h.belowH hbel).at hlt
      simp only at e1 hx
      subst e1
      have HX := Lib.hid hx
      clear hx hsx
      have hk0 : (0 : Int) ≤ (k : Int) := by omega
      go_wp2_with fail
      refine (HP.out x _ hbel).mono ?_
      rintro e w2 ⟨rfl, hb2⟩
      have HB2 := Lib.hid hb2
      clear hb2
      rcases hpx : q x.node
      · have HPX := Lib.hid hpx
        clear hpx
        go_wp2
        go_roundw
        case rel =>
          refine ⟨k + 1, by omega, by go_num, fun y hy => ?_, hbel.trans (HB2.out.mono hbs)⟩
          rw [take_more HX.out] at hy
          rcases List.mem_append.1 hy with hy | hy
          · exact HN.out y hy
          · obtain rfl : y = x := by simpa using hy
            exact HPX.out
        case measure => simp [intOf]; omega
      · have HPX := Lib.hid hpx
        clear hpx
        go_wp2
        go_ret
        exact ⟨⟨_, rfl, Or.inr ⟨k, x, rfl, HX.out, HPX.out, HN.out⟩⟩, hbel.trans (HB2.out.mono hbs)⟩
    · go_wp2
      go_ret
      exact ⟨⟨_, rfl, Or.inl ⟨rfl, by have := HN.out; rwa [List.take_of_length_le (by have := HL.out; omega)] at this⟩⟩, hbel⟩
end Go.Proofs.Ytkabkpeamggnnaa

namespace Go.Proofs.Ytkabkpeamggnnaa
set_option linter.unusedVariables false
set_option linter.unusedSimpArgs false
open Go.RowKit

/-- a view that was made behind what lay there already -/
def MadeVB (base : Nat) (W : World) (L : List Nm) (e : Ending) (w' : World) : Prop := ∃ U : Vw, e = .returned (vval U) ∧ U.view = L ∧ VOwn base w' U ∧ Below base W w'
theorem VOwn.len {base : Nat} {w : World} {U : Vw} (h : VOwn base w U) : U.l.length = U.n := h.vrd.len
theorem VOwn.alloc {base : Nat} {w : World} {U : Vw} (h : VOwn base w U) (o : Obj) : VOwn base (w.alloc o) U := h.below ((Below.refl _ _).alloc (Nat.le_refl _) _)
theorem VOwn.nil (base : Nat) (w : World) : VOwn base w ⟨[], none, 0, 0⟩ := ⟨World.ownsRow_nil _ _ _ _, by simp⟩
theorem filterN_more {q : Int → Bool} {l : List Nv} {k : Nat} {x : Nv} (h : l[k]? = some x) : (l.take (k + 1)).filter (fun y => q y.node) = (l.take k).filter (fun y => q y.node) ++ if q x.node then [x] else [] := by
  rw [take_more h, List.filter_append]
  cases hp : q x.node <;> simp [hp]
theorem off_own {base base' : Nat} {w w' : World} {U : Vw} {e' : TypeId} {size' n c : Nat} {A : Option Addr} {xs : List Value} (ho : VOwn base w U) (h : w'.ownsRow base' e' size' (.slice A n c) n xs) (hb : w.heap.size ≤ base') : Off (vval U) A n := off_made ho.1 h hb
theorem own_ne {base : Nat} {w : World} {U : Vw} (ho : VOwn base w U) {b : Nat} (hb : w.heap.size ≤ b) : (vval U).ownBlock ≠ some b := fun e => by
  have := (ho.1.lt b e).2
  omega

set_option maxHeartbeats 2000000 in
set_option maxRecDepth 20000 in
theorem vadd_any (base : Nat) (O l : List Nv) (q : Int → Bool) (g : Nat) (bp : Value) (eg : ∀ args w, (callFunc g args).run Try.prog w = .ok (.enter g args) w) (A0 A : Option Addr) (m0 c0 n c : Nat) (W w : World) (h : VRd W ⟨l, A, n, c⟩) (hW : W.heap.size ≤ base) (hbW : Below W.heap.size W w) (hbase : base ≤ w.heap.size)
    (hown : VOwn base w ⟨O, A0, m0, c0⟩) (hn : n ≤ 1000) (hm0 : m0 ≤ 2000) (hf : VFit ⟨l, A, n, c⟩) (hp : MeantN base g #[bp] q w) :
    Calls Try.prog 66 #[.slice A0 m0 c0, .slice A n c, .func (.func g) #[] #[bp]] w (MadeVB base w (O.map Nv.nm ++ (l.filter fun x => q x.node).map Nv.nm)) := by
  have hl := h.len
  simp only at hl hf
  have HL := Lib.hid hl
  have HP := Lib.hid hp
  have HF := Lib.hid hf
  have hO := hown.len
  simp only at hO
  have HO := Lib.hid hO
  clear hl hp hO hf
  go_enter Try.func66, Try.ntmps66
  go_wp2
  go_loopw [0, 11] (fun s i wr => ∃ (k m : Nat) (A1 : Option Addr) (c1 : Nat) (Q : List Nv), k ≤ n ∧ i = .int .i64 k ∧ s = .slice A1 m c1 ∧ m ≤ m0 + k ∧ Q.map Nv.nm = O.map Nv.nm ++ ((l.take k).filter fun x => q x.node).map Nv.nm ∧
      VOwn base wr ⟨Q, A1, m, c1⟩ ∧ Below base w wr) (fun _ i _ => n - (intOf i).toNat)
  case atStart => exact ⟨0, m0, A0, c0, O, by omega, rfl, rfl, by omega, by simp, hown, Below.refl _ _⟩
  case round =>
    obtain ⟨k, m, A1, c1, Q, hk, rfl, rfl, hmk, hQ, hown, hbel⟩ := hrel
    have HQ := Lib.hid hQ
    have hbs : base ≤ wr.heap.size := Nat.le_trans hbase hbel.size
    clear hQ
    by_cases hlt : k < n
    · obtain ⟨b, o, x, e1, hb, hx, hsx, d0, d1, d2, d3⟩ := (h.belowH (hbW.trans (hbel.mono hW))).at hlt
      simp only at e1 hx
      subst e1
      have hk0 : (0 : Int) ≤ (k : Int) := by omega
      have hfil := filterN_more (q := q) hx
      have HFIL := Lib.hid hfil
      have hfx := HF.out x (List.mem_of_getElem? hx)
      have hbel3 := hbel.alloc hbs (.cells #[.int .i64 x.node, .int .i64 x.v.s.gen, .int .i64 x.v.s.beat, .slice x.v.A x.v.n x.v.c] 49)
      have hown3 := hown.alloc (.cells #[.int .i64 x.node, .int .i64 x.v.s.gen, .int .i64 x.v.s.beat, .slice x.v.A x.v.n x.v.c] 49)
      have hsx3 := hsx.allocH (.cells #[.int .i64 x.node, .int .i64 x.v.s.gen, .int .i64 x.v.s.beat, .slice x.v.A x.v.n x.v.c] 49)
      have X3 := Box.new wr #[.int .i64 x.node, .int .i64 x.v.s.gen, .int .i64 x.v.s.beat, .slice x.v.A x.v.n x.v.c] 49
      have hs3 : wr.heap.size < (wr.alloc (.cells #[.int .i64 x.node, .int .i64 x.v.s.gen, .int .i64 x.v.s.beat, .slice x.v.A x.v.n x.v.c] 49)).heap.size := by simp
      have hne := own_ne hown (Nat.le_refl _)
      have HNE := Lib.hid hne
      clear hx hfil hown hsx hne
      go_wp2_with fail
      generalize wr.alloc (.cells #[.int .i64 x.node, .int .i64 x.v.s.gen, .int .i64 x.v.s.beat, .slice x.v.A x.v.n x.v.c] 49) = w3 at *
      refine (HP.out x _ hbel3).mono ?_
      rintro e w4 ⟨rfl, hb4⟩
      have hbel4 := hbel3.trans (hb4.mono (by omega))
      have hown4 := hown3.below hb4
      have hsx4 := hsx3.belowH hb4
      have X4 := X3.below hb4 hs3
      have y0 := X4.at 0 rfl
      have y1 := X4.at 1 rfl
      have y2 := X4.at 2 rfl
      have y3 := X4.at 3 rfl
      have hbs4 : base ≤ w4.heap.size := Nat.le_trans hbase hbel4.size
      have hlt4 := X4.lt
      clear hb4 hown3 X3 hbel3 hsx3 d0 d1 d2 d3
      rcases hpx : q x.node
      · have HPX := Lib.hid hpx
        clear hpx
        go_wp2
        go_roundw
        case rel => exact ⟨k + 1, m, A1, c1, Q, by omega, by go_num, rfl, by omega, by rw [HFIL.out, HPX.out]; simpa using HQ.out, hown4, hbel4⟩
        case measure => simp [intOf]; omega
      · have HPX := Lib.hid hpx
        clear hpx
        go_wp2
        refine wp_region_held_drew (S := (fun w' => w'.cell? ⟨wr.heap.size, 0, none⟩ = some (.int .i64 x.node) ∧ w'.cell? ⟨wr.heap.size, 1, none⟩ = some (.int .i64 x.v.s.gen) ∧ w'.cell? ⟨wr.heap.size, 2, none⟩ = some (.int .i64 x.v.s.beat) ∧ w'.cell? ⟨wr.heap.size, 3, none⟩ = some (.slice x.v.A x.v.n x.v.c))) (by kernel_rfl) (by exact ⟨y0, y1, y2, y3⟩) (fun hHeld0 => ?_)
        refine wpAnyH_take (i := 0) (oi := ⟨some 18, _, _, _, _, _⟩) (v := ?_) rfl (by kernel_rfl) (by kernel_rfl) (by kernel_rfl) (fun _ _ _ h => h) (Or.inl ⟨by rfl, ?_⟩) hHeld0 ?_
        rotate_left
        · (intro w' hSw; (try dsimp only at hSw); go_simp; all_goals (with_reducible rfl))
        try simp only [Act.put, sA, sB, sC]
        refine wpAnyH_take (i := 1) (oi := ⟨some 19, _, _, _, _, _⟩) (v := ?_) rfl (by kernel_rfl) (by kernel_rfl) (by kernel_rfl) (fun _ _ _ h => h) (Or.inl ⟨by rfl, ?_⟩) hHeld0 ?_
        rotate_left
        · (intro w' hSw; (try dsimp only at hSw); go_simp; all_goals (with_reducible rfl))
        try simp only [Act.put, sA, sB, sC]
        refine wpAnyH_take (i := 2) (oi := ⟨some 20, _, _, _, _, _⟩) (v := ?_) rfl (by kernel_rfl) (by kernel_rfl) (by kernel_rfl) (fun _ _ _ h => h) (Or.inl ⟨by rfl, ?_⟩) hHeld0 ?_
        rotate_left
        · (intro w' hSw; (try dsimp only at hSw); go_simp; all_goals (with_reducible rfl))
        try simp only [Act.put, sA, sB, sC]
        refine wpAnyH_take (i := 3) (oi := ⟨some 21, _, _, _, _, _⟩) (v := ?_) rfl (by kernel_rfl) (by kernel_rfl) (by kernel_rfl) (fun _ _ _ h => h) (Or.inl ⟨by rfl, ?_⟩) hHeld0 ?_
        rotate_left
        · (intro w' hSw; (try dsimp only at hSw); go_simp; all_goals (with_reducible rfl))
        try simp only [Act.put, sA, sB, sC]
        refine wpAnyH_take (i := 4) (oi := ⟨some 22, _, _, _, _, _⟩) (v := ?_) rfl (by kernel_rfl) (by kernel_rfl) (by kernel_rfl) (fun _ _ _ h => h) (Or.inl ⟨by rfl, ?_⟩) hHeld0 ?_
        rotate_left
        · (intro w' hSw; (try dsimp only at hSw); go_simp; all_goals (with_reducible rfl))
        try simp only [Act.put, sA, sB, sC]
        refine wpAnyH_ready (rs := [5]) (by kernel_rfl) (by simp) (AllReadyH.cons (o := ⟨some 23, _, _, _, _, _⟩) rfl (fun K hK => ?_) AllReadyH.nil)
        go_simp
        (refine (scopy_any x.v _ hsx4.drew (by omega)).mono ?_; rintro e w5 ⟨⟨s2, A2, n2, c2⟩, rfl, hs2, hown5, hb5⟩; simp only at hs2; subst hs2; have hb5' : Below w4.heap.size w4 w5 := (Below.refl _ _).drew.trans hb5; have hown6 := hown4.below hb5'; have X5 := X4.below hb5' hlt4; have hlt5 := X5.lt; replace y0 := X5.at 0 rfl; replace y1 := X5.at 1 rfl; replace y2 := X5.at 2 rfl; replace y3 := X5.at 3 rfl; simp only [sv])
        go_simp
        refine hK.out _ _ (by exact ⟨y0, y1, y2, y3⟩) (fun hHeld1 => ?_)
        clear hK hHeld0 K
        try simp only [Act.put, sA, sB, sC]
        refine wpAnyH_take (i := 6) (oi := ⟨some 24, _, _, _, _, _⟩) (v := ?_) rfl (by kernel_rfl) (by kernel_rfl) (by kernel_rfl) (fun _ _ _ h => h) (Or.inl ⟨by rfl, ?_⟩) hHeld1 ?_
        rotate_left
        · (intro w' hSw; (try dsimp only at hSw); go_simp; all_goals (with_reducible rfl))
        try simp only [Act.put, sA, sB, sC]
        refine wpAnyH_ready (rs := [7]) (by kernel_rfl) (by simp) (AllReadyH.cons (o := ⟨some 25, _, _, _, _, _⟩) rfl (fun K hK => ?_) AllReadyH.nil)
        go_simp
        (have Z := X5.alloc (.cells #[.int .i64 x.node, .int .i64 x.v.s.gen, .int .i64 x.v.s.beat, .slice A2 n2 c2] 49); replace y0 := Z.at 0 rfl; replace y1 := Z.at 1 rfl; replace y2 := Z.at 2 rfl; replace y3 := Z.at 3 rfl)
        go_simp
        refine hK.out _ _ (by exact ⟨y0, y1, y2, y3⟩) (fun hHeld2 => ?_)
        clear hK hHeld1 K
        try simp only [Act.put, sA, sB, sC]
        refine wpAnyH_ready (rs := [8]) (by kernel_rfl) (by simp) (AllReadyH.cons (o := ⟨some 26, _, _, _, _, _⟩) rfl (fun K hK => ?_) AllReadyH.nil)
        (refine pushF_step (f := ncl) (y := ⟨x.node, ⟨x.v.s, A2, n2, c2⟩⟩) nmT ncl_len ncl_one rfl (.tmp 18) (.tmp 25) (by rfl) base rfl (by rfl) (by rfl) hown6.1 (by show (m + 1) * 48 ≤ _; omega) (by show m + 1 ≤ _; omega) (by have := hb5'.size; omega) ?_; rintro A3 c3 w6 hown7 hb6 hkeep; replace y0 := keeps_box hkeep X5 HNE.out 0 rfl; replace y1 := keeps_box hkeep X5 HNE.out 1 rfl; replace y2 := keeps_box hkeep X5 HNE.out 2 rfl; replace y3 := keeps_box hkeep X5 HNE.out 3 rfl)
        go_simp
        refine hK.out _ _ (by exact ⟨y0, y1, y2, y3⟩) (fun hHeld3 => ?_)
        clear hK hHeld2 K
        try simp only [Act.put, sA, sB, sC]
        refine wpAnyH_take (i := 9) (oi := ⟨some 0, _, _, _, _, _⟩) (v := ?_) rfl (by kernel_rfl) (by kernel_rfl) (by kernel_rfl) (fun _ _ _ h => h) (Or.inl ⟨by rfl, ?_⟩) hHeld3 ?_
        rotate_left
        · (intro w' hSw; (try dsimp only at hSw); go_simp; all_goals (with_reducible rfl))
        try simp only [Act.put, sA, sB, sC]
        refine wpAnyH_done (by kernel_rfl) ?_ _
        go_wp2
        go_roundw
        case rel =>
          refine ⟨k + 1, m + 1, A3, c3, Q ++ [⟨x.node, ⟨x.v.s, A2, n2, c2⟩⟩], by omega, by go_num, rfl, by omega, ?_, ⟨(by exact hown7), ?_⟩, (hbel4.trans (hb5'.mono hbs4)).trans hb6⟩
          · rw [HFIL.out, HPX.out, List.map_append, HQ.out, List.map_append]; simp [Nv.nm]
          · intro y hy
            rcases List.mem_append.1 hy with hy | hy
            · have h9 := hown6.2 y hy
              have h7 := hkeep h9.1 h9.2.1
              exact ⟨h7.1, h7.2, h9.2.2⟩
            · obtain rfl : y = ⟨x.node, ⟨x.v.s, A2, n2, c2⟩⟩ := by simpa using hy
              have h7 := hkeep hown5.srd (off_own hown4 hown5 (Nat.le_refl _))
              exact ⟨h7.1, h7.2, fresh_own hown5 hbs4⟩
        case measure => simp [intOf]; omega
    · have he : l.take k = l := List.take_of_length_le (by have := HL.out; omega)
      have hq := HQ.out
      rw [he] at hq
      have HQ2 := Lib.hid hq
      clear he hq
      go_wp2
      go_ret
      exact ⟨⟨Q, A1, m, c1⟩, rfl, HQ2.out, hown, hbel⟩

set_option maxHeartbeats 2000000 in
set_option maxRecDepth 20000 in
theorem vadd0_any (base : Nat) (O l : List Nv) (q : Int → Bool) (g : Nat) (eg : ∀ args w, (callFunc g args).run Try.prog w = .ok (.enter g args) w) (A0 A : Option Addr) (m0 c0 n c : Nat) (W w : World) (h : VRd W ⟨l, A, n, c⟩) (hW : W.heap.size ≤ base) (hbW : Below W.heap.size W w) (hbase : base ≤ w.heap.size)
    (hown : VOwn base w ⟨O, A0, m0, c0⟩) (hn : n ≤ 1000) (hm0 : m0 ≤ 2000) (hf : VFit ⟨l, A, n, c⟩) (hp : MeantN base g #[] q w) :
    Calls Try.prog 66 #[.slice A0 m0 c0, .slice A n c, .func (.func g) #[] #[]] w (MadeVB base w (O.map Nv.nm ++ (l.filter fun x => q x.node).map Nv.nm)) := by
  have hl := h.len
  simp only at hl hf
  have HL := Lib.hid hl
  have HP := Lib.hid hp
  have HF := Lib.hid hf
  have hO := hown.len
  simp only at hO
  have HO := Lib.hid hO
  clear hl hp hO hf
  go_enter Try.func66, Try.ntmps66
  go_wp2
  go_loopw [0, 11] (fun s i wr => ∃ (k m : Nat) (A1 : Option Addr) (c1 : Nat) (Q : List Nv), k ≤ n ∧ i = .int .i64 k ∧ s = .slice A1 m c1 ∧ m ≤ m0 + k ∧ Q.map Nv.nm = O.map Nv.nm ++ ((l.take k).filter fun x => q x.node).map Nv.nm ∧
      VOwn base wr ⟨Q, A1, m, c1⟩ ∧ Below base w wr) (fun _ i _ => n - (intOf i).toNat)
  case atStart => exact ⟨0, m0, A0, c0, O, by omega, rfl, rfl, by omega, by simp, hown, Below.refl _ _⟩
  case round =>
    obtain ⟨k, m, A1, c1, Q, hk, rfl, rfl, hmk, hQ, hown, hbel⟩ := hrel
    have HQ := Lib.hid hQ
    have hbs : base ≤ wr.heap.size := Nat.le_trans hbase hbel.size
    clear hQ
    by_cases hlt : k < n
    · obtain ⟨b, o, x, e1, hb, hx, hsx, d0, d1, d2, d3⟩ := (h.belowH (hbW.trans (hbel.mono hW))).at hlt
      simp only at e1 hx
      subst e1
      have hk0 : (0 : Int) ≤ (k : Int) := by omega
      have hfil := filterN_more (q := q) hx
      have HFIL := Lib.hid hfil
      have hfx := HF.out x (List.mem_of_getElem? hx)
      have hbel3 := hbel.alloc hbs (.cells #[.int .i64 x.node, .int .i64 x.v.s.gen, .int .i64 x.v.s.beat, .slice x.v.A x.v.n x.v.c] 49)
      have hown3 := hown.alloc (.cells #[.int .i64 x.node, .int .i64 x.v.s.gen, .int .i64 x.v.s.beat, .slice x.v.A x.v.n x.v.c] 49)
      have hsx3 := hsx.allocH (.cells #[.int .i64 x.node, .int .i64 x.v.s.gen, .int .i64 x.v.s.beat, .slice x.v.A x.v.n x.v.c] 49)
      have X3 := Box.new wr #[.int .i64 x.node, .int .i64 x.v.s.gen, .int .i64 x.v.s.beat, .slice x.v.A x.v.n x.v.c] 49
      have hs3 : wr.heap.size < (wr.alloc (.cells #[.int .i64 x.node, .int .i64 x.v.s.gen, .int .i64 x.v.s.beat, .slice x.v.A x.v.n x.v.c] 49)).heap.size := by simp
      have hne := own_ne hown (Nat.le_refl _)
      have HNE := Lib.hid hne
      clear hx hfil hown hsx hne
      go_wp2_with fail
      generalize wr.alloc (.cells #[.int .i64 x.node, .int .i64 x.v.s.gen, .int .i64 x.v.s.beat, .slice x.v.A x.v.n x.v.c] 49) = w3 at *
      refine (HP.out x _ hbel3).mono ?_
      rintro e w4 ⟨rfl, hb4⟩
      have hbel4 := hbel3.trans (hb4.mono (by omega))
      have hown4 := hown3.below hb4
      have hsx4 := hsx3.belowH hb4
      have X4 := X3.below hb4 hs3
      have y0 := X4.at 0 rfl
      have y1 := X4.at 1 rfl
      have y2 := X4.at 2 rfl
      have y3 := X4.at 3 rfl
      have hbs4 : base ≤ w4.heap.size := Nat.le_trans hbase hbel4.size
      have hlt4 := X4.lt
      clear hb4 hown3 X3 hbel3 hsx3 d0 d1 d2 d3
      rcases hpx : q x.node
      · have HPX := Lib.hid hpx
        clear hpx
        go_wp2
        go_roundw
        case rel => exact ⟨k + 1, m, A1, c1, Q, by omega, by go_num, rfl, by omega, by rw [HFIL.out, HPX.out]; simpa using HQ.out, hown4, hbel4⟩
        case measure => simp [intOf]; omega
      · have HPX := Lib.hid hpx
        clear hpx
        go_wp2
        refine wp_region_held_drew (S := (fun w' => w'.cell? ⟨wr.heap.size, 0, none⟩ = some (.int .i64 x.node) ∧ w'.cell? ⟨wr.heap.size, 1, none⟩ = some (.int .i64 x.v.s.gen) ∧ w'.cell? ⟨wr.heap.size, 2, none⟩ = some (.int .i64 x.v.s.beat) ∧ w'.cell? ⟨wr.heap.size, 3, none⟩ = some (.slice x.v.A x.v.n x.v.c))) (by kernel_rfl) (by exact ⟨y0, y1, y2, y3⟩) (fun hHeld0 => ?_)
        refine wpAnyH_take (i := 0) (oi := ⟨some 18, _, _, _, _, _⟩) (v := ?_) rfl (by kernel_rfl) (by kernel_rfl) (by kernel_rfl) (fun _ _ _ h => h) (Or.inl ⟨by rfl, ?_⟩) hHeld0 ?_
        rotate_left
        · (intro w' hSw; (try dsimp only at hSw); go_simp; all_goals (with_reducible rfl))
        try simp only [Act.put, sA, sB, sC]
        refine wpAnyH_take (i := 1) (oi := ⟨some 19, _, _, _, _, _⟩) (v := ?_) rfl (by kernel_rfl) (by kernel_rfl) (by kernel_rfl) (fun _ _ _ h => h) (Or.inl ⟨by rfl, ?_⟩) hHeld0 ?_
        rotate_left
        · (intro w' hSw; (try dsimp only at hSw); go_simp; all_goals (with_reducible rfl))
        try simp only [Act.put, sA, sB, sC]
        refine wpAnyH_take (i := 2) (oi := ⟨some 20, _, _, _, _, _⟩) (v := ?_) rfl (by kernel_rfl) (by kernel_rfl) (by kernel_rfl) (fun _ _ _ h => h) (Or.inl ⟨by rfl, ?_⟩) hHeld0 ?_
        rotate_left
        · (intro w' hSw; (try dsimp only at hSw); go_simp; all_goals (with_reducible rfl))
        try simp only [Act.put, sA, sB, sC]
        refine wpAnyH_take (i := 3) (oi := ⟨some 21, _, _, _, _, _⟩) (v := ?_) rfl (by kernel_rfl) (by kernel_rfl) (by kernel_rfl) (fun _ _ _ h => h) (Or.inl ⟨by rfl, ?_⟩) hHeld0 ?_
        rotate_left
        · (intro w' hSw; (try dsimp only at hSw); go_simp; all_goals (with_reducible rfl))
        try simp only [Act.put, sA, sB, sC]
        refine wpAnyH_take (i := 4) (oi := ⟨some 22, _, _, _, _, _⟩) (v := ?_) rfl (by kernel_rfl) (by kernel_rfl) (by kernel_rfl) (fun _ _ _ h => h) (Or.inl ⟨by rfl, ?_⟩) hHeld0 ?_
        rotate_left
        · (intro w' hSw; (try dsimp only at hSw); go_simp; all_goals (with_reducible rfl))
        try simp only [Act.put, sA, sB, sC]
        refine wpAnyH_ready (rs := [5]) (by kernel_rfl) (by simp) (AllReadyH.cons (o := ⟨some 23, _, _, _, _, _⟩) rfl (fun K hK => ?_) AllReadyH.nil)
        go_simp
        (refine (scopy_any x.v _ hsx4.drew (by omega)).mono ?_; rintro e w5 ⟨⟨s2, A2, n2, c2⟩, rfl, hs2, hown5, hb5⟩; simp only at hs2; subst hs2; have hb5' : Below w4.heap.size w4 w5 := (Below.refl _ _).drew.trans hb5; have hown6 := hown4.below hb5'; have X5 := X4.below hb5' hlt4; have hlt5 := X5.lt; replace y0 := X5.at 0 rfl; replace y1 := X5.at 1 rfl; replace y2 := X5.at 2 rfl; replace y3 := X5.at 3 rfl; simp only [sv])
        go_simp
        refine hK.out _ _ (by exact ⟨y0, y1, y2, y3⟩) (fun hHeld1 => ?_)
        clear hK hHeld0 K
        try simp only [Act.put, sA, sB, sC]
        refine wpAnyH_take (i := 6) (oi := ⟨some 24, _, _, _, _, _⟩) (v := ?_) rfl (by kernel_rfl) (by kernel_rfl) (by kernel_rfl) (fun _ _ _ h => h) (Or.inl ⟨by rfl, ?_⟩) hHeld1 ?_
        rotate_left
        · (intro w' hSw; (try dsimp only at hSw); go_simp; all_goals (with_reducible rfl))
        try simp only [Act.put, sA, sB, sC]
        refine wpAnyH_ready (rs := [7]) (by kernel_rfl) (by simp) (AllReadyH.cons (o := ⟨some 25, _, _, _, _, _⟩) rfl (fun K hK => ?_) AllReadyH.nil)
        go_simp
        (have Z := X5.alloc (.cells #[.int .i64 x.node, .int .i64 x.v.s.gen, .int .i64 x.v.s.beat, .slice A2 n2 c2] 49); replace y0 := Z.at 0 rfl; replace y1 := Z.at 1 rfl; replace y2 := Z.at 2 rfl; replace y3 := Z.at 3 rfl)
        go_simp
        refine hK.out _ _ (by exact ⟨y0, y1, y2, y3⟩) (fun hHeld2 => ?_)
        clear hK hHeld1 K
        try simp only [Act.put, sA, sB, sC]
        refine wpAnyH_ready (rs := [8]) (by kernel_rfl) (by simp) (AllReadyH.cons (o := ⟨some 26, _, _, _, _, _⟩) rfl (fun K hK => ?_) AllReadyH.nil)
        (refine pushF_step (f := ncl) (y := ⟨x.node, ⟨x.v.s, A2, n2, c2⟩⟩) nmT ncl_len ncl_one rfl (.tmp 18) (.tmp 25) (by rfl) base rfl (by rfl) (by rfl) hown6.1 (by show (m + 1) * 48 ≤ _; omega) (by show m + 1 ≤ _; omega) (by have := hb5'.size; omega) ?_; rintro A3 c3 w6 hown7 hb6 hkeep; replace y0 := keeps_box hkeep X5 HNE.out 0 rfl; replace y1 := keeps_box hkeep X5 HNE.out 1 rfl; replace y2 := keeps_box hkeep X5 HNE.out 2 rfl; replace y3 := keeps_box hkeep X5 HNE.out 3 rfl)
        go_simp
        refine hK.out _ _ (by exact ⟨y0, y1, y2, y3⟩) (fun hHeld3 => ?_)
        clear hK hHeld2 K
        try simp only [Act.put, sA, sB, sC]
        refine wpAnyH_take (i := 9) (oi := ⟨some 0, _, _, _, _, _⟩) (v := ?_) rfl (by kernel_rfl) (by kernel_rfl) (by kernel_rfl) (fun _ _ _ h => h) (Or.inl ⟨by rfl, ?_⟩) hHeld3 ?_
        rotate_left
        · (intro w' hSw; (try dsimp only at hSw); go_simp; all_goals (with_reducible rfl))
        try simp only [Act.put, sA, sB, sC]
        refine wpAnyH_done (by kernel_rfl) ?_ _
        go_wp2
        go_roundw
        case rel =>
          refine ⟨k + 1, m + 1, A3, c3, Q ++ [⟨x.node, ⟨x.v.s, A2, n2, c2⟩⟩], by omega, by go_num, rfl, by omega, ?_, ⟨(by exact hown7), ?_⟩, (hbel4.trans (hb5'.mono hbs4)).trans hb6⟩
          · rw [HFIL.out, HPX.out, List.map_append, HQ.out, List.map_append]; simp [Nv.nm]
          · intro y hy
            rcases List.mem_append.1 hy with hy | hy
            · have h9 := hown6.2 y hy
              have h7 := hkeep h9.1 h9.2.1
              exact ⟨h7.1, h7.2, h9.2.2⟩
            · obtain rfl : y = ⟨x.node, ⟨x.v.s, A2, n2, c2⟩⟩ := by simpa using hy
              have h7 := hkeep hown5.srd (off_own hown4 hown5 (Nat.le_refl _))
              exact ⟨h7.1, h7.2, fresh_own hown5 hbs4⟩
        case measure => simp [intOf]; omega
    · have he : l.take k = l := List.take_of_length_le (by have := HL.out; omega)
      have hq := HQ.out
      rw [he] at hq
      have HQ2 := Lib.hid hq
      clear he hq
      go_wp2
      go_ret
      exact ⟨⟨Q, A1, m, c1⟩, rfl, HQ2.out, hown, hbel⟩

theorem vcopy_any (U : Vw) (w : World) (h : VRd w U) (hn : U.n ≤ 1000) (hf : VFit U) : Calls Try.prog 47 #[vval U] w (MadeV w U.view) := by
  obtain ⟨l, A, n, c⟩ := U
  simp only [vval]
  simp only at hn
  go_enter Try.func47, Try.ntmps47
  go_wp2_with fail
  refine (vadd0_any w.heap.size [] l (fun _ => true) _ vegAll none A 0 0 n c w w h (Nat.le_refl _) (Below.refl _ _) (Nat.le_refl _) (VOwn.nil _ _) hn (by omega) hf vmeant_all).mono ?_
  rintro e w2 ⟨U2, rfl, hv, hown, hb⟩
  have HV := Lib.hid hv
  clear hv
  go_wp2
  go_ret
  exact ⟨U2, rfl, HV.out.trans (by rw [List.filter_eq_self.2 (fun _ _ => rfl)]; rfl), hown, hb⟩
end Go.Proofs.Ytkabkpeamggnnaa

namespace Go.Proofs.Ytkabkpeamggnnaa
set_option linter.unusedVariables false
set_option linter.unusedSimpArgs false
open Go.RowKit

theorem vfound_get {l : List Nv} {node i : Int} (h : FoundN (fun y => y == node) l i) : (i = -1 ∧ V.get (l.map Nv.nm) node = none) ∨ ∃ (k : Nat) (x : Nv), i = k ∧ l[k]? = some x ∧ V.get (l.map Nv.nm) node = some x.v.s := by
  rcases h with ⟨rfl, h⟩ | ⟨k, x, rfl, hx, he, hno⟩
  · exact Or.inl ⟨rfl, vget_none fun y hy => by simpa using h y hy⟩
  · exact Or.inr ⟨k, x, rfl, hx, vget_at hx (by simpa using he) fun y hy => by simpa using hno y hy⟩

set_option maxHeartbeats 2000000 in
set_option maxRecDepth 20000 in
theorem vgetF_any (U : Vw) (node : Int) (w : World) (h : VRd w U) (hn : U.n ≤ 1000) (hf : VFit U) : Calls Try.prog 36 #[vval U, .int .i64 node] w (MadeGF w (V.get U.view node)) := by
  obtain ⟨l, A, n, c⟩ := U
  have hl := h.len
  simp only at hn hl hf
  have HL := Lib.hid hl
  have HF := Lib.hid hf
  clear hl hf
  simp only [vval]
  have b1 : Below w.heap.size w (w.alloc (.cells #[.int .i64 node] 3)) := (Below.refl _ _).alloc (Nat.le_refl _) _
  have x1 := Box.new w #[.int .i64 node] 3
  have hse : (w.alloc (.cells #[.int .i64 node] 3)).heap.size = w.heap.size + 1 := by simp
  have b2 := b1.alloc b1.size (.cells #[.int .i64 0, .int .i64 0, .slice none 0 0] 40)
  have x2 := Box.new (w.alloc (.cells #[.int .i64 node] 3)) #[.int .i64 0, .int .i64 0, .slice none 0 0] 40
  rw [hse] at x2
  have hs2 : w.heap.size + 1 < ((w.alloc (.cells #[.int .i64 node] 3)).alloc (.cells #[.int .i64 0, .int .i64 0, .slice none 0 0] 40)).heap.size := by simp
  have k1 := (x1.alloc (.cells #[.int .i64 0, .int .i64 0, .slice none 0 0] 40)).at 0 rfl
  have h2 := (h.allocH (.cells #[.int .i64 node] 3)).allocH (.cells #[.int .i64 0, .int .i64 0, .slice none 0 0] 40)
  have HB2 := Lib.hid b2
  have HX2 := Lib.hid x2
  have HK1 := Lib.hid k1
  clear b1 x1 hse b2 x2 k1 h
  go_enter Try.func36, Try.ntmps36
  go_wp2_with fail
  generalize (w.alloc (.cells #[.int .i64 node] 3)).alloc (.cells #[.int .i64 0, .int .i64 0, .slice none 0 0] 40) = w2 at *
  refine (vidx_any ⟨l, A, n, c⟩ (fun y => y == node) _ _ vegGet w2 h2 hn (vmeant_get (b := w.heap.size) (by omega) (Nat.le_refl _) HK1.out)).mono ?_
  rintro e w3 ⟨⟨i, rfl, hfo⟩, hb3⟩
  have X3 := HX2.out.below hb3 hs2
  have b3 : Below w.heap.size w w3 := HB2.out.trans (hb3.mono (by omega))
  have h3 := h2.belowH hb3
  have y0 := X3.at 0 rfl
  have y1 := X3.at 1 rfl
  have y2 := X3.at 2 rfl
  have yf := X3.cold
  have z := X3.lt
  clear hb3 h2 HB2 HX2 HK1
  rcases vfound_get hfo with ⟨rfl, hg⟩ | ⟨k, x, rfl, hx, hg⟩
  · have HG := Lib.hid hg
    clear hg hfo
    go_wp2
    refine bodyPost_ret (v := .tuple #[sv ⟨⟨0, 0, []⟩, none, 0, 0⟩, .bool false]) (by simp [results, Try.results36, go_sem, y0, y1, y2, z, sv]; try rfl) rfl ?_
    refine ⟨⟨⟨0, 0, []⟩, none, 0, 0⟩, ?_, ?_, ⟨Rd.zero _ _ _ _, fresh_zero _ _ _ _⟩, ?_⟩
    · rw [show V.get (Vw.view ⟨l, A, n, c⟩) node = none from HG.out]; rfl
    · rw [show V.get (Vw.view ⟨l, A, n, c⟩) node = none from HG.out]; rfl
    · repeat (first | (with_reducible exact b3) | (with_reducible refine below_set ?_ (by omega) _))
  · have hkn : k < n := by have h9 : k < l.length := (List.getElem?_eq_some_iff.1 hx).1; have := HL.out; omega
    obtain ⟨b, o, x', e1, hb, hx', hsr, c0, c1, c2, c3⟩ := h3.at hkn
    simp only at e1 hx'
    obtain rfl : x' = x := by rw [hx] at hx'; simpa using hx'.symm
    subst e1
    have HG := Lib.hid hg
    have hfx := HF.out x' (List.mem_of_getElem? hx)
    clear hg hfo hx hx'
    have hk0 : (0 : Int) ≤ (k : Int) := by omega
    go_wp2_with fail
    refine (scopy_any x'.v _ hsr (by omega)).mono ?_
    rintro e w4 ⟨⟨s2, A2, n2, c2'⟩, rfl, hs2e, hown, hb4⟩
    simp only at hs2e
    subst hs2e
    have X4 := X3.below hb4 z
    have u0 := X4.at 0 rfl
    have u1 := X4.at 1 rfl
    have u2 := X4.at 2 rfl
    have uf := X4.cold
    have uz := X4.lt
    have b4 := b3.trans (hb4.mono b3.size)
    have hown' : w4.ownsRow w3.heap.size 58 3 (.slice A2 n2 c2') n2 (EC x'.v.s.apps) := hown
    clear hb4 y0 y1 y2 yf c0 c1 c2 c3 hown
    simp only [sv]
    go_wp2
    refine bodyPost_ret (v := .tuple #[sv ⟨x'.v.s, A2, n2, c2'⟩, .bool true]) (by simp [results, Try.results36, go_sem, u0, u1, u2, uz, sv]; try rfl) rfl ?_
    refine ⟨⟨x'.v.s, A2, n2, c2'⟩, ?_, ?_, ?_, ?_⟩
    · rw [show V.get (Vw.view ⟨l, some ⟨b, o, none⟩, n, c⟩) node = some x'.v.s from HG.out]; rfl
    · rw [show V.get (Vw.view ⟨l, some ⟨b, o, none⟩, n, c⟩) node = some x'.v.s from HG.out]; rfl
    · refine ⟨?_, fresh_own (v := ⟨x'.v.s, A2, n2, c2'⟩) hown' b3.size⟩
      refine Rd.of_own (base := w3.heap.size) (e := 58) (c := c2') ?_
      show World.ownsRow _ _ _ 3 (.slice A2 n2 c2') n2 (EC x'.v.s.apps)
      repeat (first | (with_reducible exact hown') | (with_reducible refine own_set ?_ (by omega) _))
    · repeat (first | (with_reducible exact b4) | (with_reducible refine below_set ?_ (by omega) _))

theorem vget_any (U : Vw) (node : Int) (w : World) (h : VRd w U) (hn : U.n ≤ 1000) (hf : VFit U) :
    Calls Try.prog 36 #[vval U, .int .i64 node] w (MadeG w (V.get U.view node)) :=
  (vgetF_any U node w h hn hf).mono fun e w' ⟨v, h1, h2, h3, h4⟩ => ⟨v, h1, h2, h3.1, h4⟩

theorem V.put_parts {l : List Nm} (h : V.rising l) (k : Int) (s : St) : V.put l k s = l.filter (fun y => decide (y.node < k)) ++ [⟨k, s⟩] ++ l.filter (fun y => decide (k < y.node)) := by
  induction l with
  | nil => rfl
  | cons y r ih =>
    simp only [V.put, List.filter_cons]
    have none_lt : ∀ z : Nm, k ≤ z.node → (∀ y ∈ r, z.node < y.node) → r.filter (fun y => decide (y.node < k)) = [] := fun z hz hr => List.filter_eq_nil_iff.2 fun y hy => by have := hr y hy; simp; omega
    have all_gt : ∀ z : Nm, k ≤ z.node → (∀ y ∈ r, z.node < y.node) → r.filter (fun y => decide (k < y.node)) = r := fun z hz hr => List.filter_eq_self.2 fun y hy => by have := hr y hy; simp; omega
    by_cases h1 : y.node < k
    · have h2 : ¬ k < y.node := by omega
      simp [h1, h2, ih h.2]
    · by_cases h2 : y.node = k
      · have h3 : ¬ k < y.node := by omega
        rw [if_neg h1, if_pos h2]
        simp only [h1, h3, decide_false, Bool.false_eq_true, if_false]
        rw [none_lt y (by omega) h.1, all_gt y (by omega) h.1]; rfl
      · have h3 : k < y.node := by omega
        rw [if_neg h1, if_neg h2]
        simp only [h1, h3, decide_false, decide_true, Bool.false_eq_true, if_false, if_true]
        rw [none_lt y (by omega) h.1, all_gt y (by omega) h.1]; rfl
theorem filter_view (l : List Nv) (q : Int → Bool) : (l.filter fun x => q x.node).map Nv.nm = (l.map Nv.nm).filter fun y => q y.node := by
  rw [List.filter_map]; rfl

set_option maxHeartbeats 4000000 in
set_option maxRecDepth 20000 in
theorem vput_any (U : Vw) (node : Int) (v : Sv) (w : World) (h : VRd w U) (hn : U.n ≤ 900) (hf : VFit U) (hv : SRd w v) (hvn : v.n ≤ 4000) (hrise : V.rising U.view) : Calls Try.prog 69 #[vval U, .int .i64 node, sv v] w (MadeV w (V.put U.view node v.s)) := by
  obtain ⟨⟨g, t, tl⟩, At, nt, ct⟩ := v
  obtain ⟨l, A, n, c⟩ := U
  have hl := h.len
  have HPP := Lib.hid (V.put_parts hrise node ⟨g, t, tl⟩)
  simp only at hn hvn hl
  have HL := Lib.hid hl
  clear hl hrise
  simp only [vval, sv]
  have b1 : Below w.heap.size w (w.alloc (.cells #[.int .i64 node] 3)) := (Below.refl _ _).alloc (Nat.le_refl _) _
  have x1 := Box.new w #[.int .i64 node] 3
  have hse : (w.alloc (.cells #[.int .i64 node] 3)).heap.size = w.heap.size + 1 := by simp
  have b2 := b1.alloc b1.size (.cells #[.int .i64 g, .int .i64 t, .slice At nt ct] 40)
  have x2 := Box.new (w.alloc (.cells #[.int .i64 node] 3)) #[.int .i64 g, .int .i64 t, .slice At nt ct] 40
  rw [hse] at x2
  have hs2 : w.heap.size + 1 < ((w.alloc (.cells #[.int .i64 node] 3)).alloc (.cells #[.int .i64 g, .int .i64 t, .slice At nt ct] 40)).heap.size := by simp
  have X1 := x1.alloc (.cells #[.int .i64 g, .int .i64 t, .slice At nt ct] 40)
  have hv2 := (hv.allocH (.cells #[.int .i64 node] 3)).allocH (.cells #[.int .i64 g, .int .i64 t, .slice At nt ct] 40)
  have HB2 := Lib.hid b2
  clear b1 x1 hse b2
  go_enter Try.func69, Try.ntmps69
  go_wp2_with (at_make; generalize (w.alloc (.cells #[.int .i64 node] 3)).alloc (.cells #[.int .i64 g, .int .i64 t, .slice At nt ct] 40) = w2 at *; refine make0_law nmT rfl _ _ rfl w2.heap.size rfl rfl (by omega) (by omega) (by omega) (Nat.le_refl _) ?_; intro A1 c1 w3 hown1 hg1)
  have b3 : Below w2.heap.size w2 w3 := (Below.refl _ _).grown hg1 (Nat.le_refl _) (fun k hk => by cases hk)
  clear hg1
  have k3 := (X1.below b3 (by omega)).at 0 rfl
  have hs3 := b3.size
  have b3w : Below w.heap.size w w3 := HB2.out.trans (b3.mono (by omega))
  refine (vadd_any w2.heap.size [] l (fun y => decide (y < node)) _ _ vegLt A1 A 0 c1 n c w w3 h (by omega) b3w hs3 ⟨hown1, by simp⟩ (by omega) (by omega) hf (vmeant_lt (b := w.heap.size) (by omega) hs3 k3)).mono ?_
  rintro e w4 ⟨⟨O, A2, m2, c2⟩, rfl, hO, hown2, hb4⟩
  have b4 := b3.trans hb4
  have X4 := X1.below b4 (by omega)
  have Y4 := x2.below b4 hs2
  have g0 := X4.at 0 rfl
  have y0 := Y4.at 0 rfl
  have y1 := Y4.at 1 rfl
  have y2 := Y4.at 2 rfl
  have hs4 := b4.size
  have hv4 := hv2.belowH b4
  have hl2 : m2 ≤ n := by
    have h1 := hown2.len
    have h2 := congrArg List.length hO
    rw [List.map_nil, List.nil_append, show Vw.view ⟨O, A2, m2, c2⟩ = O.map Nv.nm from rfl, List.length_map, List.length_map] at h2
    have := List.length_filter_le (fun x : Nv => decide (x.node < node)) l
    have := HL.out
    simp only at h1
    omega
  have HO := Lib.hid hO
  clear b3 hs3 k3 hown1 hb4 hO hv2 b3w
  simp only [vval]
  go_wp2
  refine wp_region_held_drew (S := (fun w' => w'.cell? ⟨w.heap.size, 0, none⟩ = some (.int .i64 node) ∧ w'.cell? ⟨w.heap.size + 1, 0, none⟩ = some (.int .i64 g) ∧ w'.cell? ⟨w.heap.size + 1, 1, none⟩ = some (.int .i64 t) ∧ w'.cell? ⟨w.heap.size + 1, 2, none⟩ = some (.slice At nt ct))) (by kernel_rfl) (by exact ⟨g0, y0, y1, y2⟩) (fun hHeld0 => ?_)
  refine wpAnyH_take (i := 0) (oi := ⟨some 16, _, _, _, _, _⟩) (v := ?_) rfl (by kernel_rfl) (by kernel_rfl) (by kernel_rfl) (fun _ _ _ h => h) (Or.inl ⟨by rfl, ?_⟩) hHeld0 ?_
  rotate_left
  · (intro w' hSw; (try dsimp only at hSw); go_simp; all_goals (with_reducible rfl))
  try simp only [Act.put, sA, sB, sC]
  refine wpAnyH_take (i := 1) (oi := ⟨some 17, _, _, _, _, _⟩) (v := ?_) rfl (by kernel_rfl) (by kernel_rfl) (by kernel_rfl) (fun _ _ _ h => h) (Or.inl ⟨by rfl, ?_⟩) hHeld0 ?_
  rotate_left
  · (intro w' hSw; (try dsimp only at hSw); go_simp; all_goals (with_reducible rfl))
  try simp only [Act.put, sA, sB, sC]
  refine wpAnyH_take (i := 2) (oi := ⟨some 18, _, _, _, _, _⟩) (v := ?_) rfl (by kernel_rfl) (by kernel_rfl) (by kernel_rfl) (fun _ _ _ h => h) (Or.inl ⟨by rfl, ?_⟩) hHeld0 ?_
  rotate_left
  · (intro w' hSw; (try dsimp only at hSw); go_simp; all_goals (with_reducible rfl))
  try simp only [Act.put, sA, sB, sC]
  refine wpAnyH_ready (rs := [3]) (by kernel_rfl) (by simp) (AllReadyH.cons (o := ⟨some 19, _, _, _, _, _⟩) rfl (fun K hK => ?_) AllReadyH.nil)
  go_simp
  (refine (scopy_any ⟨⟨g, t, tl⟩, At, nt, ct⟩ _ hv4.drew (by show nt ≤ _; omega)).mono ?_; rintro e w5 ⟨⟨s2, A3, n3, c3⟩, rfl, hs2e, hown5, hb5⟩; simp only at hs2e; subst hs2e; have hb5' : Below w4.heap.size w4 w5 := (Below.refl _ _).drew.trans hb5; have hown6 := hown2.below hb5'; have hs5 : w2.heap.size ≤ w5.heap.size := Nat.le_trans hs4 hb5'.size; have X5 := X4.below hb5' (by omega); have Y5 := Y4.below hb5' (by omega); replace g0 := X5.at 0 rfl; replace y0 := Y5.at 0 rfl; replace y1 := Y5.at 1 rfl; replace y2 := Y5.at 2 rfl; simp only [sv])
  go_simp
  refine hK.out _ _ (by exact ⟨g0, y0, y1, y2⟩) (fun hHeld1 => ?_)
  clear hK hHeld0 K
  try simp only [Act.put, sA, sB, sC]
  refine wpAnyH_take (i := 4) (oi := ⟨some 20, _, _, _, _, _⟩) (v := ?_) rfl (by kernel_rfl) (by kernel_rfl) (by kernel_rfl) (fun _ _ _ h => h) (Or.inl ⟨by rfl, ?_⟩) hHeld1 ?_
  rotate_left
  · (intro w' hSw; (try dsimp only at hSw); go_simp; all_goals (with_reducible rfl))
  try simp only [Act.put, sA, sB, sC]
  refine wpAnyH_ready (rs := [5]) (by kernel_rfl) (by simp) (AllReadyH.cons (o := ⟨some 21, _, _, _, _, _⟩) rfl (fun K hK => ?_) AllReadyH.nil)
  go_simp
  (have Z := Y5.alloc (.cells #[.int .i64 node, .int .i64 g, .int .i64 t, .slice A3 n3 c3] 49); replace g0 := (X5.alloc (.cells #[.int .i64 node, .int .i64 g, .int .i64 t, .slice A3 n3 c3] 49)).at 0 rfl; replace y0 := Z.at 0 rfl; replace y1 := Z.at 1 rfl; replace y2 := Z.at 2 rfl)
  go_simp
  refine hK.out _ _ (by exact ⟨g0, y0, y1, y2⟩) (fun hHeld2 => ?_)
  clear hK hHeld1 K
  try simp only [Act.put, sA, sB, sC]
  refine wpAnyH_ready (rs := [6]) (by kernel_rfl) (by simp) (AllReadyH.cons (o := ⟨some 22, _, _, _, _, _⟩) rfl (fun K hK => ?_) AllReadyH.nil)
  (refine pushF_step (f := ncl) (y := ⟨node, ⟨⟨g, t, tl⟩, A3, n3, c3⟩⟩) nmT ncl_len ncl_one rfl (.tmp 16) (.tmp 21) (by rfl) w2.heap.size rfl (by rfl) (by rfl) hown6.1 (by show (m2 + 1) * 48 ≤ _; omega) (by show m2 + 1 ≤ _; omega) hs5 ?_; rintro A4 c4 w6 hown7 hb6 hkeep; have X6 := X5.below hb6 (by omega); have Y6 := Y5.below hb6 (by omega); replace g0 := X6.at 0 rfl; replace y0 := Y6.at 0 rfl; replace y1 := Y6.at 1 rfl; replace y2 := Y6.at 2 rfl)
  go_simp
  refine hK.out _ _ (by exact ⟨g0, y0, y1, y2⟩) (fun hHeld3 => ?_)
  clear hK hHeld2 K
  try simp only [Act.put, sA, sB, sC]
  refine wpAnyH_take (i := 7) (oi := ⟨some 7, _, _, _, _, _⟩) (v := ?_) rfl (by kernel_rfl) (by kernel_rfl) (by kernel_rfl) (fun _ _ _ h => h) (Or.inl ⟨by rfl, ?_⟩) hHeld3 ?_
  rotate_left
  · (intro w' hSw; (try dsimp only at hSw); go_simp; all_goals (with_reducible rfl))
  try simp only [Act.put, sA, sB, sC]
  refine wpAnyH_done (by kernel_rfl) ?_ _
  have b6 : Below w2.heap.size w2 w6 := (b4.trans (hb5'.mono hs4)).trans hb6
  have hs6 := b6.size
  have hO8 : VOwn w2.heap.size w6 ⟨O ++ [⟨node, ⟨⟨g, t, tl⟩, A3, n3, c3⟩⟩], A4, m2 + 1, c4⟩ := by
    refine ⟨(by exact hown7), fun y hy => ?_⟩
    rcases List.mem_append.1 hy with hy | hy
    · have h9 := hown6.2 y hy
      have h7 := hkeep h9.1 h9.2.1
      exact ⟨h7.1, h7.2, h9.2.2⟩
    · obtain rfl : y = ⟨node, ⟨⟨g, t, tl⟩, A3, n3, c3⟩⟩ := by simpa using hy
      have h7 := hkeep hown5.srd (off_own hown2 hown5 (Nat.le_refl _))
      exact ⟨h7.1, h7.2, fresh_own hown5 hs4⟩
  have b6w : Below w.heap.size w w6 := HB2.out.trans (b6.mono (by omega))
  clear hown7 hkeep hown6 hown5 hown2 hb5 hb5' hb6 b4 y0 y1 y2 X4 Y4 X5 Y5 Z Y6 hv4
  go_wp2_with fail
  refine (vadd_any w2.heap.size _ l (fun y => decide (node < y)) _ _ vegGt A4 A (m2 + 1) c4 n c w w6 h (by omega) b6w hs6 hO8 (by omega) (by omega) hf (vmeant_gt (b := w.heap.size) (by omega) hs6 g0)).mono ?_
  rintro e w7 ⟨U7, rfl, hv7, hown8, hb7⟩
  have HV7 := Lib.hid hv7
  clear hv7
  go_wp2
  go_ret
  refine ⟨U7, rfl, ?_, hown8.mono (by omega), HB2.out.trans ((b6.trans hb7).mono (by omega))⟩
  refine HV7.out.trans (Eq.trans ?_ HPP.out.symm)
  rw [List.map_append, show O.map Nv.nm = _ from HO.out, filter_view l (fun y => decide (y < node)), filter_view l (fun y => decide (node < y))]
  rfl
end Go.Proofs.Ytkabkpeamggnnaa

namespace Go.Proofs.Ytkabkpeamggnnaa
set_option linter.unusedVariables false
set_option linter.unusedSimpArgs false
open Go.RowKit

end Go.Proofs.Ytkabkpeamggnnaa

namespace Go.Proofs.Ytkabkpeamggnnaa
set_option linter.unusedVariables false
set_option linter.unusedSimpArgs false
open Go.RowKit

end Go.Proofs.Ytkabkpeamggnnaa

namespace Go.Proofs.Ytkabkpeamggnnaa
set_option linter.unusedVariables false
set_option linter.unusedSimpArgs false
open Go.RowKit

/-- what Join asks of the first view is what it would ask of what it has so far -/
theorem vget_sofar {l r : List Nm} (hl : V.rising l) (hr : V.rising r) {k : Nat} {y : Nm} (hy : r[k]? = some y) : V.get (V.join l (r.take k)) y.node = V.get l y.node := by
  rw [V.get_join hl (riseV_take hr k)]
  have : V.get (r.take k) y.node = none := by
    unfold V.get
    rw [List.find?_eq_none.2]
    · rfl
    · intro z hz
      obtain ⟨i, hi, rfl⟩ := List.mem_iff_getElem.1 hz
      have hi2 : i < k := by rw [List.length_take] at hi; omega
      have := riseV_at hr hi2 (x := (r.take k)[i]) (by rw [List.getElem_take]; exact List.getElem?_eq_getElem _) hy
      rw [List.getElem_take] at this ⊢
      simp; omega
  rw [this, V.comb_none]

set_option maxHeartbeats 8000000 in
set_option maxRecDepth 20000 in
theorem vjoin_any (U U' : Vw) (w : World) (h : VRd w U) (h' : VRd w U') (hra : V.right U.view) (hrb : V.right U'.view) : Calls Try.prog 48 #[vval U, vval U'] w (MadeV w (V.join U.view U'.view)) := by
  have HRA := Lib.hid hra
  have HRB := Lib.hid hrb
  have hf := right_fitR h hra
  have hn := right_n h hra
  have hn' := right_n h' hrb
  have HBL := Lib.hid h'.viewlen
  clear hra hrb
  obtain ⟨la, Aa, na, ca⟩ := U
  obtain ⟨l', A', n', c'⟩ := U'
  simp only at hn' hn
  have HFB := Lib.hid (right_fitR h' HRB.out)
  go_enter Try.func48, Try.ntmps48
  simp only [vval]
  go_wp2_with fail
  refine (vcopy_any ⟨la, Aa, na, ca⟩ w h (by show na ≤ _; omega) hf).mono ?_
  rintro e w1 ⟨V1, rfl, hv1, ho1, hb1⟩
  have HV1 := Lib.hid hv1
  have HOWN1 := Lib.hid ho1
  have HB1 := Lib.hid hb1
  clear hv1 ho1 hb1
  simp only [vval]
  go_wp2
  go_loopw [5, 15] (fun s i wr => ∃ (k : Nat) (Vo : Vw), k ≤ n' ∧ i = .int .i64 k ∧ s = .slice Vo.A Vo.n Vo.c ∧ Vo.view = V.join (Vw.view ⟨la, Aa, na, ca⟩) ((Vw.view ⟨l', A', n', c'⟩).take k) ∧ VOwn w.heap.size wr Vo ∧ Below w.heap.size w wr) (fun _ i _ => n' - (intOf i).toNat)
  case atStart => exact ⟨0, V1, by omega, rfl, rfl, HV1.out, HOWN1.out, HB1.out⟩
  case round =>
    obtain ⟨k, Vo, hk, rfl, rfl, hvo, hown, hbel⟩ := hrel
    have HVO := Lib.hid hvo
    have hbs := hbel.size
    have hrt : V.right Vo.view := by rw [hvo]; exact V.join_right HRA.out (right_takeV HRB.out k)
    have hno := right_n hown.vrd hrt
    have HRT := Lib.hid hrt
    have HFO := Lib.hid (right_fitR hown.vrd hrt)
    clear hvo hrt
    by_cases hlt : k < n'
    · obtain ⟨b, o, y, e1, hb, hy, hsy, c0, c1, c2, c3⟩ := (h'.belowH hbel).at hlt
      simp only at e1 hy
      subst e1
      have hk0 : (0 : Int) ≤ (k : Int) := by omega
      have hfy := HFB.out y (List.mem_of_getElem? hy)
      have HY : Hid ((Vw.view ⟨l', some ⟨b, o, none⟩, n', c'⟩)[k]? = some y.nm) := Lib.hid (nm_at hy)
      have HRY : Hid (V.may y.nm) := Lib.hid (HRB.out.1 _ (List.mem_map.2 ⟨y, List.mem_of_getElem? hy, rfl⟩))
      have hso := vget_sofar HRA.out.2 HRB.out.2 HY.out
      rw [← HVO.out] at hso
      have HSO : Hid (V.get Vo.view y.node = V.get (Vw.view ⟨la, Aa, na, ca⟩) y.node) := Lib.hid hso
      have hu := h.belowH hbel
      clear hy hso
      have X1 := Box.new wr #[.int .i64 y.node, .int .i64 y.v.s.gen, .int .i64 y.v.s.beat, .slice y.v.A y.v.n y.v.c] 49
      have hse : (wr.alloc (.cells #[.int .i64 y.node, .int .i64 y.v.s.gen, .int .i64 y.v.s.beat, .slice y.v.A y.v.n y.v.c] 49)).heap.size = wr.heap.size + 1 := by simp
      have S1 := Box.new (wr.alloc (.cells #[.int .i64 y.node, .int .i64 y.v.s.gen, .int .i64 y.v.s.beat, .slice y.v.A y.v.n y.v.c] 49)) #[.int .i64 y.v.s.gen, .int .i64 y.v.s.beat, .slice y.v.A y.v.n y.v.c] 40
      rw [hse] at S1
      replace X1 := X1.alloc (.cells #[.int .i64 y.v.s.gen, .int .i64 y.v.s.beat, .slice y.v.A y.v.n y.v.c] 40)
      have b1 := below2 wr (.cells #[.int .i64 y.node, .int .i64 y.v.s.gen, .int .i64 y.v.s.beat, .slice y.v.A y.v.n y.v.c] 49) (.cells #[.int .i64 y.v.s.gen, .int .i64 y.v.s.beat, .slice y.v.A y.v.n y.v.c] 40)
      have hs1 : wr.heap.size + 1 < ((wr.alloc (.cells #[.int .i64 y.node, .int .i64 y.v.s.gen, .int .i64 y.v.s.beat, .slice y.v.A y.v.n y.v.c] 49)).alloc (.cells #[.int .i64 y.v.s.gen, .int .i64 y.v.s.beat, .slice y.v.A y.v.n y.v.c] 40)).heap.size := by simp
      clear hse
      go_wp2_with fail
      generalize (wr.alloc (.cells #[.int .i64 y.node, .int .i64 y.v.s.gen, .int .i64 y.v.s.beat, .slice y.v.A y.v.n y.v.c] 49)).alloc (.cells #[.int .i64 y.v.s.gen, .int .i64 y.v.s.beat, .slice y.v.A y.v.n y.v.c] 40) = w3 at *
      refine (vget_any ⟨la, Aa, na, ca⟩ y.node w3 (hu.belowH b1) (by show na ≤ _; omega) hf).mono ?_
      rintro e w4 ⟨⟨sg, Ag, ng, cg⟩, rfl, hsg, hrg, hb4⟩
      simp only at hsg
      have X4 := X1.below hb4 (by omega)
      have S4 := S1.below hb4 hs1
      have b4 := b1.trans (hb4.mono (by omega))
      have hs4 : wr.heap.size + 1 < w4.heap.size := S4.lt
      clear X1 S1 b1 hb4 hs1 c0 c1 c2 c3 hu
      replace X4 := X4.alloc (.cells #[.int .i64 sg.gen, .int .i64 sg.beat, .slice Ag ng cg] 40)
      replace S4 := S4.alloc (.cells #[.int .i64 sg.gen, .int .i64 sg.beat, .slice Ag ng cg] 40)
      replace b4 := b4.alloc (by omega) (.cells #[.int .i64 sg.gen, .int .i64 sg.beat, .slice Ag ng cg] 40)
      have hrg4 := hrg.allocH (.cells #[.int .i64 sg.gen, .int .i64 sg.beat, .slice Ag ng cg] 40)
      have hs5 : w4.heap.size < (w4.alloc (.cells #[.int .i64 sg.gen, .int .i64 sg.beat, .slice Ag ng cg] 40)).heap.size := by simp
      have O4 := Box.new w4 #[.int .i64 sg.gen, .int .i64 sg.beat, .slice Ag ng cg] 40
      simp only [sv]
      rcases hg : V.get (Vw.view ⟨la, Aa, na, ca⟩) y.node with _ | xs
      · have hstep : V.step Vo.view y.nm = V.put Vo.view y.node y.v.s := by unfold V.step; rw [show V.get Vo.view y.nm.node = none from HSO.out.trans hg]; rfl
        have HST := Lib.hid hstep
        have q0 := X4.at 0 rfl
        have r0 := S4.at 0 rfl
        have r1 := S4.at 1 rfl
        have r2 := S4.at 2 rfl
        have hsy5 := hsy.belowH b4
        have hvo5 := (hown.below b4).vrd
        clear hstep hg hsg
        simp only [Option.isSome]
        go_wp2_with fail
        generalize w4.alloc (.cells #[.int .i64 sg.gen, .int .i64 sg.beat, .slice Ag ng cg] 40) = w5 at *
        refine (vput_any Vo y.node y.v w5 hvo5 (by omega) HFO.out hsy5 (by omega) HRT.out.2).mono ?_
        rintro e w6 ⟨V6, rfl, hv6, ho6, hb6⟩
        have HV6 := Lib.hid hv6
        clear hv6
        simp only [vval]
        go_wp2
        go_roundw
        case rel => exact ⟨k + 1, V6, by omega, by go_num, rfl, by rw [HV6.out, take_more HY.out, V.join_snoc, ← HVO.out, HST.out], ho6.mono (by omega), (hbel.trans (b4.mono hbs)).trans (hb6.mono (by omega))⟩
        case measure => simp [intOf]; omega
      · have hstep : V.step Vo.view y.nm = V.put Vo.view y.node (S.join sg y.v.s) := by
          unfold V.step; rw [show V.get Vo.view y.nm.node = some xs from HSO.out.trans hg]
          rw [hg] at hsg
          rw [hsg]; rfl
        have HST := Lib.hid hstep
        have hmx : V.may ⟨y.node, xs⟩ := HRA.out.1 _ (V.get_mem hg)
        have hsr : S.right sg := by rw [hg] at hsg; rw [hsg]; exact hmx.2.2
        have HSR := Lib.hid hsr
        have hng : ng ≤ 12 := by
          have h9 : sg.apps.length = ng := hrg.len
          have := right_len hsr.2.2.2.2
          omega
        have q0 := X4.at 0 rfl
        have r0 := S4.at 0 rfl
        have r1 := S4.at 1 rfl
        have r2 := S4.at 2 rfl
        have p0 := O4.at 0 rfl
        have p1 := O4.at 1 rfl
        have p2 := O4.at 2 rfl
        have hsy5 := hsy.belowH b4
        clear hstep hg hsg hsr hmx hrg
        simp only [Option.isSome]
        go_wp2_with fail
        generalize w4.alloc (.cells #[.int .i64 sg.gen, .int .i64 sg.beat, .slice Ag ng cg] 40) = w5 at *
        refine (sjoin_any ⟨sg, Ag, ng, cg⟩ y.v w5 hrg4 hsy5 (by show ng ≤ _; omega) (by omega) (S.right_rise HSR.out) (S.right_rise HRY.out.2.2)).mono ?_
        rintro e w6 ⟨⟨sj, Aj, nj, cj⟩, rfl, hsj, hoj, hb6⟩
        simp only at hsj
        have HSJ := Lib.hid hsj
        have hoj' : w6.ownsRow w5.heap.size 58 3 (.slice Aj nj cj) nj (EC sj.apps) := hoj
        have hnj : nj ≤ 12 := by
          have h9 : sj.apps.length = nj := hoj.srd.len
          have := right_len (by rw [hsj]; exact (S.join_right HSR.out HRY.out.2.2).2.2.2.2 : E.right sj.apps)
          omega
        have X6 := X4.below hb6 (by omega)
        have S6 := S4.below hb6 (by omega)
        have b6 := b4.trans (hb6.mono (by omega))
        have hs6 := hb6.size
        have rf := S6.cold
        have rz := S6.lt
        have X7 := X6.other3 (b' := wr.heap.size + 1) (by omega) (.int .i64 sj.gen) (.int .i64 sj.beat) (.slice Aj nj cj)
        have S7 := ((S6.set 0 (.int .i64 sj.gen)).set 1 (.int .i64 sj.beat)).set 2 (.slice Aj nj cj)
        have b7 := below_set (below_set (below_set b6 (b := wr.heap.size + 1) (o := 0) (by omega) (.int .i64 sj.gen)) (b := wr.heap.size + 1) (o := 1) (by omega) (.int .i64 sj.beat)) (b := wr.heap.size + 1) (o := 2) (by omega) (.slice Aj nj cj)
        have hoj7 := own_set (own_set (own_set hoj' (b := wr.heap.size + 1) (o := 0) (by omega) (.int .i64 sj.gen)) (b := wr.heap.size + 1) (o := 1) (by omega) (.int .i64 sj.beat)) (b := wr.heap.size + 1) (o := 2) (by omega) (.slice Aj nj cj)
        have q0' := X7.at 0 rfl
        have r0' := S7.at 0 (v := .int .i64 sj.gen) (by simp)
        have r1' := S7.at 1 (v := .int .i64 sj.beat) (by simp)
        have r2' := S7.at 2 (v := .slice Aj nj cj) (by simp)
        clear hsj hoj hoj' q0 r0 r1 r2 p0 p1 p2 hb6 O4 X4 S4 hrg4
        have r0 := S6.at 0 rfl
        have r1 := S6.at 1 rfl
        have r2 := S6.at 2 rfl
        simp only [sv]
        go_wp2_with fail
        have hs7 := b7.size
        have hvo7 := (hown.below b7).vrd
        clear r0 r1 r2 q0' r0' r1' r2' rf rz
        refine (vput_any Vo y.node ⟨sj, Aj, nj, cj⟩ _ hvo7 (by omega) HFO.out (Rd.of_own hoj7) (by show nj ≤ _; omega) HRT.out.2).mono ?_
        rintro e w8 ⟨V8, rfl, hv8, ho8, hb8⟩
        have b8 := (hbel.trans (b7.mono hbs)).trans (hb8.mono (by omega))
        have ho8' : VOwn w.heap.size w8 V8 := ho8.mono (by omega)
        have HV8 := Lib.hid hv8
        clear hv8 ho8 hb8 b7 hoj7 X7 S7 hvo7
        simp only [vval]
        go_wp2
        go_roundw
        case rel => exact ⟨k + 1, V8, by omega, by go_num, rfl, by rw [HV8.out, take_more HY.out, V.join_snoc, ← HVO.out, HST.out, HSJ.out], ho8', b8⟩
        case measure => simp [intOf]; omega
    · have he : (Vw.view ⟨l', A', n', c'⟩).take k = Vw.view ⟨l', A', n', c'⟩ := List.take_of_length_le (by have := HBL.out; omega)
      have hvo := HVO.out
      rw [he] at hvo
      have HV2 := Lib.hid hvo
      clear hvo he
      go_wp2
      go_ret
      exact ⟨Vo, rfl, HV2.out, hown, hbel⟩

end Go.Proofs.Ytkabkpeamggnnaa

