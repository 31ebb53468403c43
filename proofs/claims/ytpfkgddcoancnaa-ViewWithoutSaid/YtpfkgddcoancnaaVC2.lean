/- The code's add on views; Copy, Without. -/
import Derived.Test.YtpfkgddcoancnaaVC1
namespace Go.Proofs.Ytpfkgddcoancnaa
set_option linter.unusedVariables false
set_option linter.unusedSimpArgs false
open Go.RowKit

/-- a view that was made behind what lay there already -/
def MadeVB (base : Nat) (W : World) (L : List Nm) (e : Ending) (w' : World) : Prop := ∃ U : Vw, e = .returned (vval U) ∧ U.view = L ∧ VOwn base w' U ∧ Below base W w'
theorem VOwn.len {base : Nat} {w : World} {U : Vw} (h : VOwn base w U) : U.l.length = U.n := h.vrd.len
theorem VOwn.alloc {base : Nat} {w : World} {U : Vw} (h : VOwn base w U) (o : Obj) : VOwn base (w.alloc o) U := h.below ((Below.refl _ _).alloc (Nat.le_refl _) _)
theorem VOwn.mono {base base' : Nat} {w : World} {U : Vw} (h : VOwn base w U) (hb : base' ≤ base) : VOwn base' w U := ⟨own_mono h.1 hb, h.2⟩
theorem VOwn.nil (base : Nat) (w : World) : VOwn base w ⟨[], none, 0, 0⟩ := ⟨World.ownsRow_nil _ _ _ _, by simp⟩
/-- a box apart from the row stays behind a push -/
theorem keeps_box {w w' : World} {v v' : Value} {b : Nat} {T : TypeId} {cs : Array Value} (hk : Keeps w w' v v') (X : Box w b T cs) (hne : v.ownBlock ≠ some b) (j : Nat) {u : Value} (hj : cs[j]? = some u) : w'.cell? ⟨b, j, none⟩ = some u := by
  have hr : Rd w w.heap.size cs.size (some ⟨b, 0, none⟩) 1 cs.toList := by
    refine ⟨by simp, fun _ => ⟨b, 0, rfl, X.lt, fun i hi => ?_⟩⟩
    rw [Nat.zero_add]
    have h1 : cs[i]? = some (cs[i]'(by simpa using hi)) := Array.getElem?_eq_getElem _
    rw [X.at i h1, ← Array.getElem?_toList] at *
    exact h1.symm
  obtain ⟨⟨_, hc⟩, _⟩ := hk hr (fun _ b' o' e => by injection e with e; injection e with e; rw [← e]; exact hne)
  obtain ⟨b', o', e, _, hcell⟩ := hc (by omega)
  injection e with e
  injection e with e1 e2
  subst e1 e2
  have hjs : j < cs.size := (Array.getElem?_eq_some_iff.1 hj).1
  have := hcell j (by simpa using hjs)
  rw [Nat.zero_add, Array.getElem?_toList, hj] at this
  exact this
theorem filterN_more {q : Int → Bool} {l : List Nv} {k : Nat} {x : Nv} (h : l[k]? = some x) : (l.take (k + 1)).filter (fun y => q y.node) = (l.take k).filter (fun y => q y.node) ++ if q x.node then [x] else [] := by
  rw [take_more h, List.filter_append]
  cases hp : q x.node <;> simp [hp]
theorem off_own {base base' : Nat} {w w' : World} {U : Vw} {e' : TypeId} {size' n c : Nat} {A : Option Addr} {xs : List Value} (ho : VOwn base w U) (h : w'.ownsRow base' e' size' (.slice A n c) n xs) (hb : w.heap.size ≤ base') : Off (vval U) A n := off_made ho.1 h hb
theorem own_ne {base : Nat} {w : World} {U : Vw} (ho : VOwn base w U) {b : Nat} (hb : w.heap.size ≤ b) : (vval U).ownBlock ≠ some b := fun e => by
  have := (ho.1.lt b e).2
  omega

set_option maxHeartbeats 2000000 in
set_option maxRecDepth 20000 in
theorem vadd_any (base : Nat) (O l : List Nv) (q : Int → Bool) (g : Nat) (bp : Value) (eg : ∀ args w, (callFunc g args).run Try.prog w = .ok (.enter g args) w) (A0 A : Option Addr) (m0 c0 n c : Nat) (W w : World) (h : VRd W ⟨l, A, n, c⟩) (hW : W.heap.size ≤ base) (hbW : Below W.heap.size W w) (hbase : base ≤ w.heap.size)
    (hown : VOwn base w ⟨O, A0, m0, c0⟩) (hn : n ≤ 1000) (hm0 : m0 ≤ 2000) (hf : VFit ⟨l, A, n, c⟩) (hp : MeantN base g #[bp] q w) :
    Calls Try.prog 42 #[.slice A0 m0 c0, .slice A n c, .func (.func g) #[] #[bp]] w (MadeVB base w (O.map Nv.nm ++ (l.filter fun x => q x.node).map Nv.nm)) := by
  have hl := h.len
  simp only at hl hf
  have HL := Lib.hid hl
  have HP := Lib.hid hp
  have HF := Lib.hid hf
  have hO := hown.len
  simp only at hO
  have HO := Lib.hid hO
  clear hl hp hO hf
  go_enter Try.func42, Try.ntmps42
  go_wp2
  go_loopw [0, 11] (fun s i wr => ∃ (k m : Nat) (A1 : Option Addr) (c1 : Nat) (Q : List Nv), k ≤ n ∧ i = .int .i64 k ∧ s = .slice A1 m c1 ∧ m ≤ m0 + k ∧ Q.map Nv.nm = O.map Nv.nm ++ ((l.take k).filter fun x => q x.node).map Nv.nm ∧
      VOwn base wr ⟨Q, A1, m, c1⟩ ∧ Below base w wr) (fun _ i _ => n - (intOf i).toNat)
  case atStart => exact ⟨0, m0, A0, c0, O, by omega, rfl, rfl, by omega, by simp, hown, Below.refl _ _⟩
  case round =>
    obtain ⟨k, m, A1, c1, Q, hk, rfl, rfl, hmk, hQ, hown, hbel⟩ := hrel
    have HQ := Lib.hid hQ
    have hbs : base ≤ wr.heap.size := Nat.le_trans hbase hbel.size
    clear hQ
    by_cases hlt : k < n
    · obtain ⟨b, o, x, e1, hb, hx, hsx, d0, d1, d2, d3⟩ := (h.belowH (hbW.trans (hbel.mono hW))).at hlt
      simp only at e1 hx
      subst e1
      have hk0 : (0 : Int) ≤ (k : Int) := by omega
      have hfil := filterN_more (q := q) hx
      have HFIL := Lib.hid hfil
      have hfx := HF.out x (List.mem_of_getElem? hx)
      have hbel3 := hbel.alloc hbs (.cells #[.int .i64 x.node, .int .i64 x.v.s.gen, .int .i64 x.v.s.beat, .slice x.v.A x.v.n x.v.c] 45)
      have hown3 := hown.alloc (.cells #[.int .i64 x.node, .int .i64 x.v.s.gen, .int .i64 x.v.s.beat, .slice x.v.A x.v.n x.v.c] 45)
      have hsx3 := hsx.allocH (.cells #[.int .i64 x.node, .int .i64 x.v.s.gen, .int .i64 x.v.s.beat, .slice x.v.A x.v.n x.v.c] 45)
      have X3 := Box.new wr #[.int .i64 x.node, .int .i64 x.v.s.gen, .int .i64 x.v.s.beat, .slice x.v.A x.v.n x.v.c] 45
      have hs3 : wr.heap.size < (wr.alloc (.cells #[.int .i64 x.node, .int .i64 x.v.s.gen, .int .i64 x.v.s.beat, .slice x.v.A x.v.n x.v.c] 45)).heap.size := by simp
      have hne := own_ne hown (Nat.le_refl _)
      have HNE := Lib.hid hne
      clear hx hfil hown hsx hne
      go_wp2_with fail
      generalize wr.alloc (.cells #[.int .i64 x.node, .int .i64 x.v.s.gen, .int .i64 x.v.s.beat, .slice x.v.A x.v.n x.v.c] 45) = w3 at *
      refine (HP.out x _ hbel3).mono ?_
      rintro e w4 ⟨rfl, hb4⟩
      have hbel4 := hbel3.trans (hb4.mono (by omega))
      have hown4 := hown3.below hb4
      have hsx4 := hsx3.belowH hb4
      have X4 := X3.below hb4 hs3
      have y0 := X4.at 0 rfl
      have y1 := X4.at 1 rfl
      have y2 := X4.at 2 rfl
      have y3 := X4.at 3 rfl
      have hbs4 : base ≤ w4.heap.size := Nat.le_trans hbase hbel4.size
      have hlt4 := X4.lt
      clear hb4 hown3 X3 hbel3 hsx3 d0 d1 d2 d3
      rcases hpx : q x.node
      · have HPX := Lib.hid hpx
        clear hpx
        go_wp2
        go_roundw
        case rel => exact ⟨k + 1, m, A1, c1, Q, by omega, by go_num, rfl, by omega, by rw [HFIL.out, HPX.out]; simpa using HQ.out, hown4, hbel4⟩
        case measure => simp [intOf]; omega
      · have HPX := Lib.hid hpx
        clear hpx
        go_wp2
        refine wp_region_held_drew (S := (fun w' => w'.cell? ⟨wr.heap.size, 0, none⟩ = some (.int .i64 x.node) ∧ w'.cell? ⟨wr.heap.size, 1, none⟩ = some (.int .i64 x.v.s.gen) ∧ w'.cell? ⟨wr.heap.size, 2, none⟩ = some (.int .i64 x.v.s.beat) ∧ w'.cell? ⟨wr.heap.size, 3, none⟩ = some (.slice x.v.A x.v.n x.v.c))) (by kernel_rfl) (by exact ⟨y0, y1, y2, y3⟩) (fun hHeld0 => ?_)
        refine wpAnyH_take (i := 0) (oi := ⟨some 18, _, _, _, _, _⟩) (v := ?_) rfl (by kernel_rfl) (by kernel_rfl) (by kernel_rfl) (fun _ _ _ h => h) (Or.inl ⟨by rfl, ?_⟩) hHeld0 ?_
        rotate_left
        · (intro w' hSw; (try dsimp only at hSw); go_simp; all_goals (with_reducible rfl))
        try simp only [Act.put, List.setIfInBounds_toArray, List.set_cons_zero, List.set_cons_succ]
        refine wpAnyH_take (i := 1) (oi := ⟨some 19, _, _, _, _, _⟩) (v := ?_) rfl (by kernel_rfl) (by kernel_rfl) (by kernel_rfl) (fun _ _ _ h => h) (Or.inl ⟨by rfl, ?_⟩) hHeld0 ?_
        rotate_left
        · (intro w' hSw; (try dsimp only at hSw); go_simp; all_goals (with_reducible rfl))
        try simp only [Act.put, List.setIfInBounds_toArray, List.set_cons_zero, List.set_cons_succ]
        refine wpAnyH_take (i := 2) (oi := ⟨some 20, _, _, _, _, _⟩) (v := ?_) rfl (by kernel_rfl) (by kernel_rfl) (by kernel_rfl) (fun _ _ _ h => h) (Or.inl ⟨by rfl, ?_⟩) hHeld0 ?_
        rotate_left
        · (intro w' hSw; (try dsimp only at hSw); go_simp; all_goals (with_reducible rfl))
        try simp only [Act.put, List.setIfInBounds_toArray, List.set_cons_zero, List.set_cons_succ]
        refine wpAnyH_take (i := 3) (oi := ⟨some 21, _, _, _, _, _⟩) (v := ?_) rfl (by kernel_rfl) (by kernel_rfl) (by kernel_rfl) (fun _ _ _ h => h) (Or.inl ⟨by rfl, ?_⟩) hHeld0 ?_
        rotate_left
        · (intro w' hSw; (try dsimp only at hSw); go_simp; all_goals (with_reducible rfl))
        try simp only [Act.put, List.setIfInBounds_toArray, List.set_cons_zero, List.set_cons_succ]
        refine wpAnyH_take (i := 4) (oi := ⟨some 22, _, _, _, _, _⟩) (v := ?_) rfl (by kernel_rfl) (by kernel_rfl) (by kernel_rfl) (fun _ _ _ h => h) (Or.inl ⟨by rfl, ?_⟩) hHeld0 ?_
        rotate_left
        · (intro w' hSw; (try dsimp only at hSw); go_simp; all_goals (with_reducible rfl))
        try simp only [Act.put, List.setIfInBounds_toArray, List.set_cons_zero, List.set_cons_succ]
        refine wpAnyH_ready (rs := [5]) (by kernel_rfl) (by simp) (AllReadyH.cons (o := ⟨some 23, _, _, _, _, _⟩) rfl (fun K hK => ?_) AllReadyH.nil)
        go_simp
        (refine (scopy_any x.v _ hsx4.drew (by omega)).mono ?_; rintro e w5 ⟨⟨s2, A2, n2, c2⟩, rfl, hs2, hown5, hb5⟩; simp only at hs2; subst hs2; have hb5' : Below w4.heap.size w4 w5 := (Below.refl _ _).drew.trans hb5; have hown6 := hown4.below hb5'; have X5 := X4.below hb5' hlt4; have hlt5 := X5.lt; replace y0 := X5.at 0 rfl; replace y1 := X5.at 1 rfl; replace y2 := X5.at 2 rfl; replace y3 := X5.at 3 rfl; simp only [sv])
        go_simp
        refine hK.out _ _ (by exact ⟨y0, y1, y2, y3⟩) (fun hHeld1 => ?_)
        clear hK hHeld0 K
        try simp only [Act.put, List.setIfInBounds_toArray, List.set_cons_zero, List.set_cons_succ]
        refine wpAnyH_take (i := 6) (oi := ⟨some 24, _, _, _, _, _⟩) (v := ?_) rfl (by kernel_rfl) (by kernel_rfl) (by kernel_rfl) (fun _ _ _ h => h) (Or.inl ⟨by rfl, ?_⟩) hHeld1 ?_
        rotate_left
        · (intro w' hSw; (try dsimp only at hSw); go_simp; all_goals (with_reducible rfl))
        try simp only [Act.put, List.setIfInBounds_toArray, List.set_cons_zero, List.set_cons_succ]
        refine wpAnyH_ready (rs := [7]) (by kernel_rfl) (by simp) (AllReadyH.cons (o := ⟨some 25, _, _, _, _, _⟩) rfl (fun K hK => ?_) AllReadyH.nil)
        go_simp
        (have Z := X5.alloc (.cells #[.int .i64 x.node, .int .i64 x.v.s.gen, .int .i64 x.v.s.beat, .slice A2 n2 c2] 45); replace y0 := Z.at 0 rfl; replace y1 := Z.at 1 rfl; replace y2 := Z.at 2 rfl; replace y3 := Z.at 3 rfl)
        go_simp
        refine hK.out _ _ (by exact ⟨y0, y1, y2, y3⟩) (fun hHeld2 => ?_)
        clear hK hHeld1 K
        try simp only [Act.put, List.setIfInBounds_toArray, List.set_cons_zero, List.set_cons_succ]
        refine wpAnyH_ready (rs := [8]) (by kernel_rfl) (by simp) (AllReadyH.cons (o := ⟨some 26, _, _, _, _, _⟩) rfl (fun K hK => ?_) AllReadyH.nil)
        (refine pushF_step (f := ncl) (y := ⟨x.node, ⟨x.v.s, A2, n2, c2⟩⟩) nmT ncl_len ncl_one rfl (.tmp 18) (.tmp 25) (by rfl) base rfl (by rfl) (by rfl) hown6.1 (by show (m + 1) * 48 ≤ _; omega) (by show m + 1 ≤ _; omega) (by have := hb5'.size; omega) ?_; rintro A3 c3 w6 hown7 hb6 hkeep; replace y0 := keeps_box hkeep X5 HNE.out 0 rfl; replace y1 := keeps_box hkeep X5 HNE.out 1 rfl; replace y2 := keeps_box hkeep X5 HNE.out 2 rfl; replace y3 := keeps_box hkeep X5 HNE.out 3 rfl)
        go_simp
        refine hK.out _ _ (by exact ⟨y0, y1, y2, y3⟩) (fun hHeld3 => ?_)
        clear hK hHeld2 K
        try simp only [Act.put, List.setIfInBounds_toArray, List.set_cons_zero, List.set_cons_succ]
        refine wpAnyH_take (i := 9) (oi := ⟨some 0, _, _, _, _, _⟩) (v := ?_) rfl (by kernel_rfl) (by kernel_rfl) (by kernel_rfl) (fun _ _ _ h => h) (Or.inl ⟨by rfl, ?_⟩) hHeld3 ?_
        rotate_left
        · (intro w' hSw; (try dsimp only at hSw); go_simp; all_goals (with_reducible rfl))
        try simp only [Act.put, List.setIfInBounds_toArray, List.set_cons_zero, List.set_cons_succ]
        refine wpAnyH_done (by kernel_rfl) ?_ _
        go_wp2
        go_roundw
        case rel =>
          refine ⟨k + 1, m + 1, A3, c3, Q ++ [⟨x.node, ⟨x.v.s, A2, n2, c2⟩⟩], by omega, by go_num, rfl, by omega, ?_, ⟨(by exact hown7), ?_⟩, (hbel4.trans (hb5'.mono hbs4)).trans hb6⟩
          · rw [HFIL.out, HPX.out, List.map_append, HQ.out, List.map_append]; simp [Nv.nm]
          · intro y hy
            rcases List.mem_append.1 hy with hy | hy
            · have h9 := hown6.2 y hy
              exact hkeep h9.1 h9.2
            · obtain rfl : y = ⟨x.node, ⟨x.v.s, A2, n2, c2⟩⟩ := by simpa using hy
              exact hkeep hown5.srd (off_own hown4 hown5 (Nat.le_refl _))
        case measure => simp [intOf]; omega
    · have he : l.take k = l := List.take_of_length_le (by have := HL.out; omega)
      have hq := HQ.out
      rw [he] at hq
      have HQ2 := Lib.hid hq
      clear he hq
      go_wp2
      go_ret
      exact ⟨⟨Q, A1, m, c1⟩, rfl, HQ2.out, hown, hbel⟩

set_option maxHeartbeats 2000000 in
set_option maxRecDepth 20000 in
theorem vadd0_any (base : Nat) (O l : List Nv) (q : Int → Bool) (g : Nat) (eg : ∀ args w, (callFunc g args).run Try.prog w = .ok (.enter g args) w) (A0 A : Option Addr) (m0 c0 n c : Nat) (W w : World) (h : VRd W ⟨l, A, n, c⟩) (hW : W.heap.size ≤ base) (hbW : Below W.heap.size W w) (hbase : base ≤ w.heap.size)
    (hown : VOwn base w ⟨O, A0, m0, c0⟩) (hn : n ≤ 1000) (hm0 : m0 ≤ 2000) (hf : VFit ⟨l, A, n, c⟩) (hp : MeantN base g #[] q w) :
    Calls Try.prog 42 #[.slice A0 m0 c0, .slice A n c, .func (.func g) #[] #[]] w (MadeVB base w (O.map Nv.nm ++ (l.filter fun x => q x.node).map Nv.nm)) := by
  have hl := h.len
  simp only at hl hf
  have HL := Lib.hid hl
  have HP := Lib.hid hp
  have HF := Lib.hid hf
  have hO := hown.len
  simp only at hO
  have HO := Lib.hid hO
  clear hl hp hO hf
  go_enter Try.func42, Try.ntmps42
  go_wp2
  go_loopw [0, 11] (fun s i wr => ∃ (k m : Nat) (A1 : Option Addr) (c1 : Nat) (Q : List Nv), k ≤ n ∧ i = .int .i64 k ∧ s = .slice A1 m c1 ∧ m ≤ m0 + k ∧ Q.map Nv.nm = O.map Nv.nm ++ ((l.take k).filter fun x => q x.node).map Nv.nm ∧
      VOwn base wr ⟨Q, A1, m, c1⟩ ∧ Below base w wr) (fun _ i _ => n - (intOf i).toNat)
  case atStart => exact ⟨0, m0, A0, c0, O, by omega, rfl, rfl, by omega, by simp, hown, Below.refl _ _⟩
  case round =>
    obtain ⟨k, m, A1, c1, Q, hk, rfl, rfl, hmk, hQ, hown, hbel⟩ := hrel
    have HQ := Lib.hid hQ
    have hbs : base ≤ wr.heap.size := Nat.le_trans hbase hbel.size
    clear hQ
    by_cases hlt : k < n
    · obtain ⟨b, o, x, e1, hb, hx, hsx, d0, d1, d2, d3⟩ := (h.belowH (hbW.trans (hbel.mono hW))).at hlt
      simp only at e1 hx
      subst e1
      have hk0 : (0 : Int) ≤ (k : Int) := by omega
      have hfil := filterN_more (q := q) hx
      have HFIL := Lib.hid hfil
      have hfx := HF.out x (List.mem_of_getElem? hx)
      have hbel3 := hbel.alloc hbs (.cells #[.int .i64 x.node, .int .i64 x.v.s.gen, .int .i64 x.v.s.beat, .slice x.v.A x.v.n x.v.c] 45)
      have hown3 := hown.alloc (.cells #[.int .i64 x.node, .int .i64 x.v.s.gen, .int .i64 x.v.s.beat, .slice x.v.A x.v.n x.v.c] 45)
      have hsx3 := hsx.allocH (.cells #[.int .i64 x.node, .int .i64 x.v.s.gen, .int .i64 x.v.s.beat, .slice x.v.A x.v.n x.v.c] 45)
      have X3 := Box.new wr #[.int .i64 x.node, .int .i64 x.v.s.gen, .int .i64 x.v.s.beat, .slice x.v.A x.v.n x.v.c] 45
      have hs3 : wr.heap.size < (wr.alloc (.cells #[.int .i64 x.node, .int .i64 x.v.s.gen, .int .i64 x.v.s.beat, .slice x.v.A x.v.n x.v.c] 45)).heap.size := by simp
      have hne := own_ne hown (Nat.le_refl _)
      have HNE := Lib.hid hne
      clear hx hfil hown hsx hne
      go_wp2_with fail
      generalize wr.alloc (.cells #[.int .i64 x.node, .int .i64 x.v.s.gen, .int .i64 x.v.s.beat, .slice x.v.A x.v.n x.v.c] 45) = w3 at *
      refine (HP.out x _ hbel3).mono ?_
      rintro e w4 ⟨rfl, hb4⟩
      have hbel4 := hbel3.trans (hb4.mono (by omega))
      have hown4 := hown3.below hb4
      have hsx4 := hsx3.belowH hb4
      have X4 := X3.below hb4 hs3
      have y0 := X4.at 0 rfl
      have y1 := X4.at 1 rfl
      have y2 := X4.at 2 rfl
      have y3 := X4.at 3 rfl
      have hbs4 : base ≤ w4.heap.size := Nat.le_trans hbase hbel4.size
      have hlt4 := X4.lt
      clear hb4 hown3 X3 hbel3 hsx3 d0 d1 d2 d3
      rcases hpx : q x.node
      · have HPX := Lib.hid hpx
        clear hpx
        go_wp2
        go_roundw
        case rel => exact ⟨k + 1, m, A1, c1, Q, by omega, by go_num, rfl, by omega, by rw [HFIL.out, HPX.out]; simpa using HQ.out, hown4, hbel4⟩
        case measure => simp [intOf]; omega
      · have HPX := Lib.hid hpx
        clear hpx
        go_wp2
        refine wp_region_held_drew (S := (fun w' => w'.cell? ⟨wr.heap.size, 0, none⟩ = some (.int .i64 x.node) ∧ w'.cell? ⟨wr.heap.size, 1, none⟩ = some (.int .i64 x.v.s.gen) ∧ w'.cell? ⟨wr.heap.size, 2, none⟩ = some (.int .i64 x.v.s.beat) ∧ w'.cell? ⟨wr.heap.size, 3, none⟩ = some (.slice x.v.A x.v.n x.v.c))) (by kernel_rfl) (by exact ⟨y0, y1, y2, y3⟩) (fun hHeld0 => ?_)
        refine wpAnyH_take (i := 0) (oi := ⟨some 18, _, _, _, _, _⟩) (v := ?_) rfl (by kernel_rfl) (by kernel_rfl) (by kernel_rfl) (fun _ _ _ h => h) (Or.inl ⟨by rfl, ?_⟩) hHeld0 ?_
        rotate_left
        · (intro w' hSw; (try dsimp only at hSw); go_simp; all_goals (with_reducible rfl))
        try simp only [Act.put, List.setIfInBounds_toArray, List.set_cons_zero, List.set_cons_succ]
        refine wpAnyH_take (i := 1) (oi := ⟨some 19, _, _, _, _, _⟩) (v := ?_) rfl (by kernel_rfl) (by kernel_rfl) (by kernel_rfl) (fun _ _ _ h => h) (Or.inl ⟨by rfl, ?_⟩) hHeld0 ?_
        rotate_left
        · (intro w' hSw; (try dsimp only at hSw); go_simp; all_goals (with_reducible rfl))
        try simp only [Act.put, List.setIfInBounds_toArray, List.set_cons_zero, List.set_cons_succ]
        refine wpAnyH_take (i := 2) (oi := ⟨some 20, _, _, _, _, _⟩) (v := ?_) rfl (by kernel_rfl) (by kernel_rfl) (by kernel_rfl) (fun _ _ _ h => h) (Or.inl ⟨by rfl, ?_⟩) hHeld0 ?_
        rotate_left
        · (intro w' hSw; (try dsimp only at hSw); go_simp; all_goals (with_reducible rfl))
        try simp only [Act.put, List.setIfInBounds_toArray, List.set_cons_zero, List.set_cons_succ]
        refine wpAnyH_take (i := 3) (oi := ⟨some 21, _, _, _, _, _⟩) (v := ?_) rfl (by kernel_rfl) (by kernel_rfl) (by kernel_rfl) (fun _ _ _ h => h) (Or.inl ⟨by rfl, ?_⟩) hHeld0 ?_
        rotate_left
        · (intro w' hSw; (try dsimp only at hSw); go_simp; all_goals (with_reducible rfl))
        try simp only [Act.put, List.setIfInBounds_toArray, List.set_cons_zero, List.set_cons_succ]
        refine wpAnyH_take (i := 4) (oi := ⟨some 22, _, _, _, _, _⟩) (v := ?_) rfl (by kernel_rfl) (by kernel_rfl) (by kernel_rfl) (fun _ _ _ h => h) (Or.inl ⟨by rfl, ?_⟩) hHeld0 ?_
        rotate_left
        · (intro w' hSw; (try dsimp only at hSw); go_simp; all_goals (with_reducible rfl))
        try simp only [Act.put, List.setIfInBounds_toArray, List.set_cons_zero, List.set_cons_succ]
        refine wpAnyH_ready (rs := [5]) (by kernel_rfl) (by simp) (AllReadyH.cons (o := ⟨some 23, _, _, _, _, _⟩) rfl (fun K hK => ?_) AllReadyH.nil)
        go_simp
        (refine (scopy_any x.v _ hsx4.drew (by omega)).mono ?_; rintro e w5 ⟨⟨s2, A2, n2, c2⟩, rfl, hs2, hown5, hb5⟩; simp only at hs2; subst hs2; have hb5' : Below w4.heap.size w4 w5 := (Below.refl _ _).drew.trans hb5; have hown6 := hown4.below hb5'; have X5 := X4.below hb5' hlt4; have hlt5 := X5.lt; replace y0 := X5.at 0 rfl; replace y1 := X5.at 1 rfl; replace y2 := X5.at 2 rfl; replace y3 := X5.at 3 rfl; simp only [sv])
        go_simp
        refine hK.out _ _ (by exact ⟨y0, y1, y2, y3⟩) (fun hHeld1 => ?_)
        clear hK hHeld0 K
        try simp only [Act.put, List.setIfInBounds_toArray, List.set_cons_zero, List.set_cons_succ]
        refine wpAnyH_take (i := 6) (oi := ⟨some 24, _, _, _, _, _⟩) (v := ?_) rfl (by kernel_rfl) (by kernel_rfl) (by kernel_rfl) (fun _ _ _ h => h) (Or.inl ⟨by rfl, ?_⟩) hHeld1 ?_
        rotate_left
        · (intro w' hSw; (try dsimp only at hSw); go_simp; all_goals (with_reducible rfl))
        try simp only [Act.put, List.setIfInBounds_toArray, List.set_cons_zero, List.set_cons_succ]
        refine wpAnyH_ready (rs := [7]) (by kernel_rfl) (by simp) (AllReadyH.cons (o := ⟨some 25, _, _, _, _, _⟩) rfl (fun K hK => ?_) AllReadyH.nil)
        go_simp
        (have Z := X5.alloc (.cells #[.int .i64 x.node, .int .i64 x.v.s.gen, .int .i64 x.v.s.beat, .slice A2 n2 c2] 45); replace y0 := Z.at 0 rfl; replace y1 := Z.at 1 rfl; replace y2 := Z.at 2 rfl; replace y3 := Z.at 3 rfl)
        go_simp
        refine hK.out _ _ (by exact ⟨y0, y1, y2, y3⟩) (fun hHeld2 => ?_)
        clear hK hHeld1 K
        try simp only [Act.put, List.setIfInBounds_toArray, List.set_cons_zero, List.set_cons_succ]
        refine wpAnyH_ready (rs := [8]) (by kernel_rfl) (by simp) (AllReadyH.cons (o := ⟨some 26, _, _, _, _, _⟩) rfl (fun K hK => ?_) AllReadyH.nil)
        (refine pushF_step (f := ncl) (y := ⟨x.node, ⟨x.v.s, A2, n2, c2⟩⟩) nmT ncl_len ncl_one rfl (.tmp 18) (.tmp 25) (by rfl) base rfl (by rfl) (by rfl) hown6.1 (by show (m + 1) * 48 ≤ _; omega) (by show m + 1 ≤ _; omega) (by have := hb5'.size; omega) ?_; rintro A3 c3 w6 hown7 hb6 hkeep; replace y0 := keeps_box hkeep X5 HNE.out 0 rfl; replace y1 := keeps_box hkeep X5 HNE.out 1 rfl; replace y2 := keeps_box hkeep X5 HNE.out 2 rfl; replace y3 := keeps_box hkeep X5 HNE.out 3 rfl)
        go_simp
        refine hK.out _ _ (by exact ⟨y0, y1, y2, y3⟩) (fun hHeld3 => ?_)
        clear hK hHeld2 K
        try simp only [Act.put, List.setIfInBounds_toArray, List.set_cons_zero, List.set_cons_succ]
        refine wpAnyH_take (i := 9) (oi := ⟨some 0, _, _, _, _, _⟩) (v := ?_) rfl (by kernel_rfl) (by kernel_rfl) (by kernel_rfl) (fun _ _ _ h => h) (Or.inl ⟨by rfl, ?_⟩) hHeld3 ?_
        rotate_left
        · (intro w' hSw; (try dsimp only at hSw); go_simp; all_goals (with_reducible rfl))
        try simp only [Act.put, List.setIfInBounds_toArray, List.set_cons_zero, List.set_cons_succ]
        refine wpAnyH_done (by kernel_rfl) ?_ _
        go_wp2
        go_roundw
        case rel =>
          refine ⟨k + 1, m + 1, A3, c3, Q ++ [⟨x.node, ⟨x.v.s, A2, n2, c2⟩⟩], by omega, by go_num, rfl, by omega, ?_, ⟨(by exact hown7), ?_⟩, (hbel4.trans (hb5'.mono hbs4)).trans hb6⟩
          · rw [HFIL.out, HPX.out, List.map_append, HQ.out, List.map_append]; simp [Nv.nm]
          · intro y hy
            rcases List.mem_append.1 hy with hy | hy
            · have h9 := hown6.2 y hy
              exact hkeep h9.1 h9.2
            · obtain rfl : y = ⟨x.node, ⟨x.v.s, A2, n2, c2⟩⟩ := by simpa using hy
              exact hkeep hown5.srd (off_own hown4 hown5 (Nat.le_refl _))
        case measure => simp [intOf]; omega
    · have he : l.take k = l := List.take_of_length_le (by have := HL.out; omega)
      have hq := HQ.out
      rw [he] at hq
      have HQ2 := Lib.hid hq
      clear he hq
      go_wp2
      go_ret
      exact ⟨⟨Q, A1, m, c1⟩, rfl, HQ2.out, hown, hbel⟩

theorem vcopy_any (U : Vw) (w : World) (h : VRd w U) (hn : U.n ≤ 1000) (hf : VFit U) : Calls Try.prog 20 #[vval U] w (MadeV w U.view) := by
  obtain ⟨l, A, n, c⟩ := U
  simp only [vval]
  simp only at hn
  go_enter Try.func20, Try.ntmps20
  go_wp2_with fail
  refine (vadd0_any w.heap.size [] l (fun _ => true) _ vegAll none A 0 0 n c w w h (Nat.le_refl _) (Below.refl _ _) (Nat.le_refl _) (VOwn.nil _ _) hn (by omega) hf vmeant_all).mono ?_
  rintro e w2 ⟨U2, rfl, hv, hown, hb⟩
  have HV := Lib.hid hv
  clear hv
  go_wp2
  go_ret
  exact ⟨U2, rfl, HV.out.trans (by rw [List.filter_eq_self.2 (fun _ _ => rfl)]; rfl), hown, hb⟩
theorem without_view (l : List Nv) (node : Int) : ([] : List Nv).map Nv.nm ++ (l.filter fun x => x.node != node).map Nv.nm = V.without (l.map Nv.nm) node := off_view node l
set_option maxHeartbeats 1000000 in
theorem vwithout_any (U : Vw) (node : Int) (w : World) (h : VRd w U) (hn : U.n ≤ 1000) (hf : VFit U) : Calls Try.prog 21 #[vval U, .int .i64 node] w (MadeV w (V.without U.view node)) := by
  obtain ⟨l, A, n, c⟩ := U
  simp only [vval]
  simp only at hn
  have b1 : Below w.heap.size w (w.alloc (.cells #[.int .i64 node] 3)) := (Below.refl _ _).alloc (Nat.le_refl _) _
  have x1 := (Box.new w #[.int .i64 node] 3).at 0 rfl
  have hs1 : w.heap.size < (w.alloc (.cells #[.int .i64 node] 3)).heap.size := by simp
  have HB1 := Lib.hid b1
  have HX1 := Lib.hid x1
  clear b1 x1
  go_enter Try.func21, Try.ntmps21
  go_wp2_with fail
  generalize w.alloc (.cells #[.int .i64 node] 3) = w2 at *
  refine (vadd_any w2.heap.size [] l (fun y => y != node) _ _ vegNe none A 0 0 n c w w2 h (by omega) HB1.out (Nat.le_refl _) (VOwn.nil _ _) hn (by omega) hf (vmeant_ne (b := w.heap.size) hs1 (Nat.le_refl _) HX1.out)).mono ?_
  rintro e w3 ⟨U2, rfl, hv, hown, hb⟩
  have HV := Lib.hid hv
  clear hv
  go_wp2
  go_ret
  exact ⟨U2, rfl, HV.out.trans (without_view l node), hown.mono (by omega), HB1.out.trans (hb.mono (by omega))⟩
end Go.Proofs.Ytpfkgddcoancnaa
