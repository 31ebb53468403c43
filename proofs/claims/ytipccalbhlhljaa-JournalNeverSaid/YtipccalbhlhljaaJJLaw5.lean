/- JLaw5 (merged). -/
import Derived.Deep.DeepCutAuto
import Derived.Test.YtipccalbhlhljaaJJTurn
namespace Go.Proofs.Ytipccalbhlhljaa
set_option linter.unusedVariables false
set_option linter.unusedSimpArgs false
open Go.RowKit
theorem rkarm_at' {x : Dk} {z : Dk × Int} (A : Option Addr) (n c : Nat) (m : Int) (e : K.arm x m = z) (w : World) (h : KRd w ⟨x, A, n, c⟩) (hn : n ≤ 1000) : Calls Try.prog 24 #[.agg #[.slice A n c, .int .i64 x.fuse, .bool x.down], .int .i64 m] w (DiskR z.1 z.2 w) := by subst e; exact rkarm_any ⟨x, A, n, c⟩ m w h hn
theorem rkwake_at' {x : Dk} {z : Dk × Int} (A : Option Addr) (n c : Nat) (e : K.wake x = z) (w : World) (h : KRd w ⟨x, A, n, c⟩) : Calls Try.prog 25 #[.agg #[.slice A n c, .int .i64 x.fuse, .bool x.down]] w (DiskR z.1 z.2 w) := by subst e; exact rkwake_any ⟨x, A, n, c⟩ w h
theorem arm_is {d : Dk} (hr : K.right d) (hd : d.down = false) {m : Int} (hm : -1 ≤ m) : K.arm d m = (⟨d.secs, m, false⟩, 0) := by unfold K.arm; rw [if_neg (Classical.not_not.2 hr), if_neg (by simp [hd]), if_neg (by omega), hd]
theorem cell_below {B : Nat} {W w : World} {q : Addr} {v : Value} (h : W.cell? q = some v) (b : Below B W w) (hlt : q.block < B) : w.cell? q = some v := (b.cell (p := q) hlt).trans h
/-- what holds ahead of turn k -/
def AheadN (W : World) (xb lb n : Nat) (iv : Value) (wr : World) : Prop := ∃ (k : Nat) (l : List (List UInt8)) (x : Rc) (A2 : Option Addr) (n2 c2 : Nat), k ≤ n ∧ iv = .int .i64 (k : Int) ∧ l.length = 3 ∧ J.IsLast l x ∧ (x.seq ≤ k + 1 ∧ x.gen ≤ k + 1) ∧
  Box wr xb 34 #[.slice A2 n2 c2, .int .i64 (-1), .bool false] ∧ KRd wr ⟨⟨l, -1, false⟩, A2, n2, c2⟩ ∧ Box wr lb 23 #[.int .i64 x.seq, .int .i64 x.gen, .string (strB x.note)] ∧ Below W.heap.size W wr
/-- what holds behind the first write of a turn -/
def Wrote (W : World) (xb lb wb : Nat) (d : Dk) (x : Rc) (y : Dk) (r : Rc) (er : Int) (A2 : Option Addr) (n2 c2 : Nat) (s9 s10 s11 : Value) (wx : World) : Prop := ∃ (yb rb : Nat) (A3 : Option Addr) (n3 c3 : Nat), s9 = .pointer (some ⟨yb, 0, none⟩) ∧ s10 = .pointer (some ⟨rb, 0, none⟩) ∧ s11 = .int .i64 er ∧ (W.heap.size ≤ yb ∧ W.heap.size ≤ rb) ∧ (yb ≠ xb ∧ yb ≠ lb ∧ yb ≠ wb ∧ rb ≠ xb ∧ rb ≠ lb ∧ rb ≠ wb ∧ yb ≠ rb) ∧
  Box wx yb 34 #[.slice A3 n3 c3, .int .i64 y.fuse, .bool y.down] ∧ Box wx rb 23 #[.int .i64 r.seq, .int .i64 r.gen, .string (strB r.note)] ∧ KRd wx ⟨y, A3, n3, c3⟩ ∧
  Box wx xb 34 #[.slice A2 n2 c2, .int .i64 d.fuse, .bool d.down] ∧ KRd wx ⟨d, A2, n2, c2⟩ ∧ Box wx lb 23 #[.int .i64 x.seq, .int .i64 x.gen, .string (strB x.note)] ∧ Box wx wb 23 #[.int .i64 x.seq, .int .i64 x.gen, .string (strB x.note)] ∧ Below W.heap.size W wx
/-- what holds behind the fuse -/
def Aimed (W : World) (xb lb : Nat) (l : List (List UInt8)) (x : Rc) (k : Nat) (s7 : Value) (wx : World) : Prop := ∃ (φ : Int) (A2 : Option Addr) (n2 c2 : Nat), s7 = .int .i64 (k : Int) ∧ (-1 ≤ φ ∧ φ ≤ 254) ∧
  Box wx xb 34 #[.slice A2 n2 c2, .int .i64 φ, .bool false] ∧ KRd wx ⟨⟨l, φ, false⟩, A2, n2, c2⟩ ∧ Box wx lb 23 #[.int .i64 x.seq, .int .i64 x.gen, .string (strB x.note)] ∧ Below W.heap.size W wx
/-- what a deed of a turn answers -/
def Case (l : List (List UInt8)) (φ : Int) (x : Rc) (gen : Int) (note : List UInt8) (d : Dk) (r : Rc) (er : Int) : Prop := d.secs.length = l.length ∧ -1 ≤ d.fuse ∧ d.fuse ≤ φ ∧ ((er = 0 ∧ r = ⟨x.seq + 1, gen, note⟩ ∧ d.down = false ∧ J.IsLast d.secs ⟨x.seq + 1, gen, note⟩) ∨ (er = 9 ∧ d.down = true ∧ J.IsLast d.secs x))
/-- what holds behind the deed of a turn -/
def Dared (W : World) (xb lb wb yb rb : Nat) (l : List (List UInt8)) (φ : Int) (x : Rc) (bN : Bool) (note : List UInt8) (s11 : Value) (wx : World) : Prop := ∃ (d : Dk) (r : Rc) (er : Int) (A3 : Option Addr) (n3 c3 : Nat), s11 = .int .i64 er ∧ Case l φ x (x.gen + if bN then 1 else 0) note d r er ∧
  Box wx yb 34 #[.slice A3 n3 c3, .int .i64 d.fuse, .bool d.down] ∧ Box wx rb 23 #[.int .i64 r.seq, .int .i64 r.gen, .string (strB r.note)] ∧ KRd wx ⟨d, A3, n3, c3⟩ ∧
  (∃ v0 v1 v2, Box wx xb 34 #[v0, v1, v2]) ∧ Box wx lb 23 #[.int .i64 x.seq, .int .i64 x.gen, .string (strB x.note)] ∧ Box wx wb 23 #[.int .i64 x.seq, .int .i64 x.gen, .string (strB x.note)] ∧ Below W.heap.size W wx
/-- what holds behind the switch -/
def Told (W : World) (xb lb wb yb rb : Nat) (x : Rc) (er : Int) (k : Nat) (s7 : Value) (wx : World) : Prop := ∃ (l : List (List UInt8)) (φ : Int) (z : Rc) (A3 : Option Addr) (n3 c3 : Nat), s7 = .int .i64 (k : Int) ∧ (er = 0 ∨ er = 9 ∧ z = x) ∧ (l.length = 3 ∧ -1 ≤ φ ∧ φ ≤ 254) ∧ J.IsLast l z ∧ (z.seq ≤ (k : Int) + 1 + 1 ∧ z.gen ≤ (k : Int) + 1 + 1) ∧
  Box wx yb 34 #[.slice A3 n3 c3, .int .i64 φ, .bool false] ∧ (∃ v0 v1 v2, Box wx rb 23 #[v0, v1, v2]) ∧ KRd wx ⟨⟨l, φ, false⟩, A3, n3, c3⟩ ∧
  (∃ v0 v1 v2, Box wx xb 34 #[v0, v1, v2]) ∧ Box wx lb 23 #[.int .i64 z.seq, .int .i64 z.gen, .string (strB z.note)] ∧ Box wx wb 23 #[.int .i64 x.seq, .int .i64 x.gen, .string (strB x.note)] ∧ Below W.heap.size W wx
set_option maxHeartbeats 16000000 in
set_option maxRecDepth 100000 in
theorem law_JournalNever (A : Option Addr) (n c : Nat) (tl0 : List Tn) (W : World) (w0 : TnRd W A n c tl0) :
    Calls Try.prog 5 #[.slice A n c] W fun e w' => e = .returned (.bool true) ∧ Below W.heap.size W w' := by
  have hnm : n ≤ 9223372036854775807 := by have := w0.2; omega
  have WR := Lib.hid w0
  clear w0
  have E1 := Lib.hid (J.new_blank (m := 3) (n := 3) rfl (by omega) (by omega))
  have FB := J.format_blank (n := 3) (note := []) (by omega) (by omega) (by decide)
  have E2 : Hid (J.format (J.blank 3) [] = (_, (⟨1, 1, []⟩ : Rc), 0)) := Lib.hid FB.1
  have IL := Lib.hid FB.2
  clear FB
  obtain ⟨l0, hl0⟩ : ∃ l, (List.replicate 3 K.zero).set 1 (J.sec ⟨1, 1, []⟩) = l := ⟨_, rfl⟩
  rw [hl0] at E2 IL
  have hl3 : Hid (l0.length = 3) := Lib.hid (by rw [← hl0, List.length_set, List.length_replicate])
  clear hl0
  go_enter Try.func5, Try.ntmps5
  go_wp2_with fail
  refine (jalive_any _).mono ?_
  rintro e v1 ⟨rfl, b⟩
  by_cases hn : 100 < n
  · go_wp2
    go_ret
    exact ⟨rfl, b⟩
  go_wp2_with fail
  refine (rknew_at' E1.out _).mono ?_
  rintro e v2 ⟨⟨A1, k1, c1, rfl, R, fr⟩, hb⟩
  clear fr
  replace b := b.trans (hb.mono b.size)
  clear hb
  have HV : Hid (W.heap.size ≤ v2.heap.size) := Lib.hid b.size
  have X := Box.new v2 #[.slice A1 k1 c1, .int .i64 (J.blank 3).fuse, .bool (J.blank 3).down] 34
  replace R := R.alloc (.cells #[.slice A1 k1 c1, .int .i64 (J.blank 3).fuse, .bool (J.blank 3).down] 34)
  have hk1 : k1 ≤ 3 := by have h1 := R.len; have h2 : (J.blank 3).secs.length = 3 := rfl; simp only at h1; omega
  replace b := b.alloc b.size (.cells #[.slice A1 k1 c1, .int .i64 (J.blank 3).fuse, .bool (J.blank 3).down] 34)
  have x0 := X.at 0 rfl
  have x1 := X.at 1 rfl
  have x2 := X.at 2 rfl
  (try dsimp only)
  (try dsimp only at R)
  go_wp2_with fail
  generalize v2.alloc (.cells #[.slice A1 k1 c1, .int .i64 (J.blank 3).fuse, .bool (J.blank 3).down] 34) = s1 at *
  refine (jformat_at A1 k1 c1 [] E2.out _ R (by omega) (by show (-1 : Int) ≤ _; omega) (by decide)).mono ?_
  rintro e v3 ⟨⟨A2, n2, c2, rfl, R'⟩, hb⟩
  replace X := X.belowH hb
  replace b := b.trans (hb.mono b.size)
  clear hb x0 x1 x2 R
  have x0 := X.at 0 rfl
  have x1 := X.at 1 rfl
  have x2 := X.at 2 rfl
  have xc := X.cold
  have hxv := X.lt
  simp only [rv]
  (try dsimp only)
  (try dsimp only at R')
  have R2 := (R'.box3 X (.slice A2 n2 c2) (.int .i64 (-1)) (.bool false)).alloc (.cells #[.int .i64 1, .int .i64 1, .string (strB [])] 23)
  have X2 := (X.three (.slice A2 n2 c2) (.int .i64 (-1)) (.bool false)).alloc (.cells #[.int .i64 1, .int .i64 1, .string (strB [])] 23)
  have L2 := Box.new (((v3.setCell ⟨v2.heap.size, 0, none⟩ (.slice A2 n2 c2)).setCell ⟨v2.heap.size, 1, none⟩ (.int .i64 (-1))).setCell ⟨v2.heap.size, 2, none⟩ (.bool false)) #[.int .i64 1, .int .i64 1, .string (strB [])] 23
  rw [show (((v3.setCell ⟨v2.heap.size, 0, none⟩ (.slice A2 n2 c2)).setCell ⟨v2.heap.size, 1, none⟩ (.int .i64 (-1))).setCell ⟨v2.heap.size, 2, none⟩ (.bool false)).heap.size = v3.heap.size by simp] at L2
  have b2 := (below_three b (show W.heap.size ≤ v2.heap.size from HV.out) (.slice A2 n2 c2) (.int .i64 (-1)) (.bool false)).alloc (by have := b.size; simp; omega) (.cells #[.int .i64 1, .int .i64 1, .string (strB [])] 23)
  have hwl : W.heap.size ≤ v3.heap.size := b.size
  clear R' X b
  go_wp2_with fail
  clear x0 x1 x2 xc
  generalize (((v3.setCell ⟨v2.heap.size, 0, none⟩ (.slice A2 n2 c2)).setCell ⟨v2.heap.size, 1, none⟩ (.int .i64 (-1))).setCell ⟨v2.heap.size, 2, none⟩ (.bool false)).alloc (.cells #[.int .i64 1, .int .i64 1, .string (strB [])] 23) = s3 at *
  have hwx := HV.out
  generalize v3.heap.size = lb at *
  generalize v2.heap.size = xb at *
  go_loopw [7] (AheadN W xb lb n) (fun v _ => n - (intOf v).toNat)
  case atStart => exact ⟨0, l0, ⟨1, 1, []⟩, A2, n2, c2, by omega, rfl, hl3.out, IL.out, ⟨by show (1 : Int) ≤ _; omega, by show (1 : Int) ≤ _; omega⟩, X2, R2, L2, b2⟩
  case round =>
    clear X2 R2 L2 b2 HV
    obtain ⟨k, l, x, A2', n2', c2', hk, rfl, hl, hil, ⟨hxs, hxg⟩, X, R, L, b⟩ := hrel
    have HL3 := Lib.hid hl
    have HIL := Lib.hid hil
    clear hl hil
    by_cases hlt : k < n
    · skip
      obtain ⟨bw, ow, ⟨⟨bN, z, note⟩, hprop⟩, rfl, hbw, c0, c1', c2', hz, hnote⟩ := WR.out.at hlt
      dsimp only at c0 c1' c2' hz hnote
      clear hprop
      have hst : (strB note).size ≤ 9223372036854775807 := by rw [J.strB_size]; exact hnote
      have HSZ : Hid ((strB note).size = note.length) := Lib.hid (J.strB_size note)
      have hk0 : (0 : Int) ≤ (k : Int) := by omega
      have C0 := Lib.hid c0
      have C1 := Lib.hid c1'
      have C2 := Lib.hid c2'
      clear c0 c1' c2'
      have e0 := cell_below C0.out b hbw
      have e1 := cell_below C1.out b hbw
      have e2 := cell_below C2.out b hbw
      have x0 := X.at 0 rfl
      have x1 := X.at 1 rfl
      have x2 := X.at 2 rfl
      have g0 := L.at 0 rfl
      have g1 := L.at 1 rfl
      have g2 := L.at 2 rfl
      by_cases h30 : 30 < (strB note).size
      · go_wp2
        go_ret
        exact ⟨rfl, b⟩
      have h30' : note.length ≤ 30 := by have := HSZ.out; omega
      have hkn : n2' ≤ 1000 := by have h1 := R.len; have h2 := HL3.out; simp only at h1; omega
      have hxm : J.may x := by obtain ⟨⟨i, hv⟩, _⟩ := HIL.out; exact hv.1
      obtain ⟨hm1, hm2, hm3, hm4, hm5⟩ := hxm
      have wz : IntKind.i64.wrap z = z := IntWalk.i64_in _ (by omega)
      have wg : IntKind.i64.wrap (x.gen + 1) = x.gen + 1 := IntWalk.i64_in _ (by omega)
      have wg2 : wrap64 (x.gen + 1) = x.gen + 1 := wrap64_fit (by omega) (by omega)
      have ws : IntKind.i64.wrap (x.seq + 1) = x.seq + 1 := IntWalk.i64_in _ (by omega)
      have ws2 : wrap64 (x.seq + 1) = x.seq + 1 := wrap64_fit (by omega) (by omega)
      have hgd := guard_rc
      go_upto_if 49 with fail
      go_cut [7] (Aimed W xb lb l x k)
      case first =>
        by_cases hz255 : z < 255
        rotate_left
        · go_wp2_with fail
          go_meet
          exact ⟨-1, A2', n2', c2', rfl, by omega, X, R, L, b⟩
        have EA0 : Hid (K.arm ⟨l, -1, false⟩ z = (⟨l, z, false⟩, 0)) := Lib.hid (arm_is (d := ⟨l, -1, false⟩) ⟨by show l.length ≤ 64; have := HL3.out; omega, by show (-1 : Int) ≤ -1; omega⟩ rfl (by omega))
        go_upto_region 15 with fail
        clear e0 e1 e2 x0 x1 x2 g0 g1 g2
        replace X := X.drew
        replace L := L.drew
        replace R := R.drew
        replace b := b.drew
        refine wp_region_late (S := (fun w' => w'.cell? ⟨xb, 0, none⟩ = some (.slice A2' n2' c2') ∧ w'.cell? ⟨xb, 1, none⟩ = some (.int .i64 (-1)) ∧ w'.cell? ⟨xb, 2, none⟩ = some (.bool false) ∧ w'.cell? ⟨bw, ow + k * 3 + 1, none⟩ = some (.int .u8 z))) (lates := [11]) (by kernel_rfl) (by exact ⟨X.at 0 rfl, X.at 1 rfl, X.at 2 rfl, cell_below C1.out b hbw⟩) (fun hHeld0 => ?_)
        generalize wr.drew = wp at *
        refine tl 0 51 rfl hHeld0 ?_
        refine tl 1 52 rfl hHeld0 ?_
        refine tl 2 53 rfl hHeld0 ?_
        refine tl 3 54 rfl hHeld0 ?_
        refine tl 4 55 rfl hHeld0 ?_
        refine tl 5 56 rfl hHeld0 ?_
        refine tl 6 57 rfl hHeld0 ?_
        refine wpAnyL_ready (rs := [7]) (by kernel_rfl) (by simp) (AllReadyL.cons (o := ⟨some 58, _, _, _, _, _⟩) rfl (fun K hK => ?_) AllReadyL.nil)
        go_simp
        refine (rkarm_at' (x := ⟨l, -1, false⟩) A2' n2' c2' z EA0.out _ R hkn).mono ?_
        rintro e wq ⟨⟨A6, n6, c6, rfl, R6, fr⟩, hb⟩
        clear fr R
        (try dsimp only at R6)
        (try dsimp only)
        replace X := X.belowH hb
        replace L := L.belowH hb
        replace b := b.trans (hb.mono b.size)
        clear hb
        go_simp
        refine hK.out _ _ (by exact ⟨X.at 0 rfl, X.at 1 rfl, X.at 2 rfl, cell_below C1.out b hbw⟩) (fun hHeld1 => ?_)
        clear hK hHeld0 K
        try simp only [Act.put, sA, sB, sC]
        refine tl 8 50 rfl hHeld1 ?_
        refine tl 9 59 rfl hHeld1 ?_
        refine tw 10 60 rfl (fun _ => hHeld1) ?_
        refine wpAnyL_ready (rs := [11]) (by kernel_rfl) (by simp) (AllReadyL.late (o := ⟨none, _, _, _, _, _⟩) rfl (by kernel_rfl) (fun K hK => ?_) AllReadyL.nil)
        have a0 := X.at 0 rfl
        have a1 := X.at 1 rfl
        have a2 := X.at 2 rfl
        have ac := X.cold
        go_simp
        have R := R6.box3 X (.slice A6 n6 c6) (.int .i64 z) (.bool false)
        replace L := L.other3' (show lb ≠ xb by omega) (.slice A6 n6 c6) (.int .i64 z) (.bool false)
        replace X := X.three (.slice A6 n6 c6) (.int .i64 z) (.bool false)
        replace b := below_three b hwx (.slice A6 n6 c6) (.int .i64 z) (.bool false)
        clear R6 a0 a1 a2 ac
        refine hK.out _ _ ?_
        clear hK hHeld1 K
        try simp only [Act.put, sA, sB, sC]
        refine wpAnyL_done (by kernel_rfl) ?_ _
        go_wp2_with fail
        go_meet
        exact ⟨z, A6, n6, c6, rfl, by omega, X, R, L, b⟩
      case rest =>
        clear X R L b e0 e1 e2 x0 x1 x2 g0 g1 g2 hkn
        obtain ⟨φ, A2, n2, c2, rfl, ⟨hp1, hp2⟩, X, R, L, b⟩ := hcut
        have hkn : n2 ≤ 1000 := by have h1 := R.len; have h2 := HL3.out; simp only at h1; omega
        have x0 := X.at 0 rfl
        have x1 := X.at 1 rfl
        have x2 := X.at 2 rfl
        have g0 := L.at 0 rfl
        have g1 := L.at 1 rfl
        have g2 := L.at 2 rfl
        have RTD : Hid (K.right ⟨l, φ, false⟩) := Lib.hid ⟨by show l.length ≤ 64; have := HL3.out; omega, by show -1 ≤ φ; omega⟩
        obtain ⟨⟨y, rr, er⟩, hwr⟩ : ∃ zz, J.write ⟨l, φ, false⟩ x.gen note = zz := ⟨_, rfl⟩
        have HWR := Lib.hid hwr
        clear hwr
        have hlw : lb < wc.heap.size := L.lt
        have Wb := Box.new wc #[.int .i64 x.seq, .int .i64 x.gen, .string (strB x.note)] 23
        replace X := X.alloc (.cells #[.int .i64 x.seq, .int .i64 x.gen, .string (strB x.note)] 23)
        replace L := L.alloc (.cells #[.int .i64 x.seq, .int .i64 x.gen, .string (strB x.note)] 23)
        replace R := R.alloc (.cells #[.int .i64 x.seq, .int .i64 x.gen, .string (strB x.note)] 23)
        replace b := b.alloc b.size (.cells #[.int .i64 x.seq, .int .i64 x.gen, .string (strB x.note)] 23)
        go_upto_region 17 with fail
        generalize wc.alloc (.cells #[.int .i64 x.seq, .int .i64 x.gen, .string (strB x.note)] 23) = wd at *
        generalize wc.heap.size = wb at *
        clear x0 x1 x2 g0 g1 g2
        go_cut [9, 10, 11] (Wrote W xb lb wb ⟨l, φ, false⟩ x y rr er A2 n2 c2)
        case first => as_aux_lemma =>
          replace X := X.drew
          replace L := L.drew
          replace R := R.drew
          replace Wb := Wb.drew
          replace b := b.drew
          refine wp_region_held_drew (S := (fun w' => w'.cell? ⟨xb, 0, none⟩ = some (.slice A2 n2 c2) ∧ w'.cell? ⟨xb, 1, none⟩ = some (.int .i64 φ) ∧ w'.cell? ⟨xb, 2, none⟩ = some (.bool false) ∧ w'.cell? ⟨lb, 1, none⟩ = some (.int .i64 x.gen) ∧ w'.cell? ⟨bw, ow + k * 3 + 2, none⟩ = some (.string (strB note)))) (by kernel_rfl) (by exact ⟨X.at 0 rfl, X.at 1 rfl, X.at 2 rfl, L.at 1 rfl, cell_below C2.out b hbw⟩) (fun hHeld0 => ?_)
          generalize wd.drew = we at *
          have hwlt := Wb.lt
          refine tk 0 63 rfl hHeld0 ?_
          refine tk 1 64 rfl hHeld0 ?_
          refine tk 2 65 rfl hHeld0 ?_
          refine tk 3 66 rfl hHeld0 ?_
          refine tk 4 67 rfl hHeld0 ?_
          refine tk 5 68 rfl hHeld0 ?_
          refine tk 6 69 rfl hHeld0 ?_
          refine tk 7 70 rfl hHeld0 ?_
          refine wpAnyH_ready (rs := [8, 13, 14]) (by kernel_rfl) (by simp) (AllReadyH.cons (o := ⟨some 71, _, _, _, _, _⟩) rfl (fun K hK => ?_) (AllReadyH.cons (o := ⟨some 9, _, _, _, _, _⟩) rfl (fun K hK => ?_) (AllReadyH.cons (o := ⟨some 10, _, _, _, _, _⟩) rfl (fun K hK => ?_) AllReadyH.nil)))
          · skip
            go_simp
            refine (jwrite_at (d := ⟨l, φ, false⟩) A2 n2 c2 x.gen note HWR.out _ R hkn (by show φ ≤ _; omega) (by omega) hnote).mono ?_
            rintro e wf0 ⟨⟨A3, n3, c3, rfl, R3⟩, hb⟩
            (try dsimp only at R3)
            simp only [rv]
            (try dsimp only)
            replace X := X.belowH hb
            replace L := L.belowH hb
            replace Wb := Wb.belowH hb
            replace R := R.belowH hb
            have hsz0 := hb.size
            replace b := b.trans (hb.mono b.size)
            clear hb
            go_simp
            refine hK.out _ _ (by exact ⟨X.at 0 rfl, X.at 1 rfl, X.at 2 rfl, L.at 1 rfl, cell_below C2.out b hbw⟩) (fun hHeld1 => ?_)
            clear hK hHeld0 K
            try simp only [Act.put, sA, sB, sC]
            refine tk 9 62 rfl hHeld1 ?_
            refine tk 10 72 rfl hHeld1 ?_
            refine tk 11 73 rfl hHeld1 ?_
            refine tk 12 74 rfl hHeld1 ?_
            refine wpAnyH_ready (rs := [13, 14]) (by kernel_rfl) (by simp) (AllReadyH.cons (o := ⟨some 9, _, _, _, _, _⟩) rfl (fun K hK => ?_) (AllReadyH.cons (o := ⟨some 10, _, _, _, _, _⟩) rfl (fun K hK => ?_) AllReadyH.nil))
            · skip
              go_simp
              have hwYD : wb < wf0.heap.size := Wb.lt
              have YD := Box.new wf0 #[.slice none 0 0, .int .i64 0, .bool false] 34
              replace X := X.alloc (.cells #[.slice none 0 0, .int .i64 0, .bool false] 34)
              replace L := L.alloc (.cells #[.slice none 0 0, .int .i64 0, .bool false] 34)
              replace Wb := Wb.alloc (.cells #[.slice none 0 0, .int .i64 0, .bool false] 34)
              replace R := R.alloc (.cells #[.slice none 0 0, .int .i64 0, .bool false] 34)
              replace R3 := R3.alloc (.cells #[.slice none 0 0, .int .i64 0, .bool false] 34)
              replace b := b.alloc b.size (.cells #[.slice none 0 0, .int .i64 0, .bool false] 34)
              refine hK.out _ _ (by exact ⟨X.at 0 rfl, X.at 1 rfl, X.at 2 rfl, L.at 1 rfl, cell_below C2.out b hbw⟩) (fun hHeld2 => ?_)
              clear hK hHeld1 K
              try simp only [Act.put, sA, sB, sC]
              generalize wf0.alloc (.cells #[.slice none 0 0, .int .i64 0, .bool false] 34) = wg1 at *
              generalize wf0.heap.size = ydb1 at *
              refine wpAnyH_ready (rs := [14]) (by kernel_rfl) (by simp) (AllReadyH.cons (o := ⟨some 10, _, _, _, _, _⟩) rfl (fun K hK => ?_) AllReadyH.nil)
              go_simp
              have hwYR : wb < wg1.heap.size := Wb.lt
              have hoo : ydb1 < wg1.heap.size := YD.lt
              have YR := Box.new wg1 #[.int .i64 0, .int .i64 0, .string ⟨#[]⟩] 23
              replace X := X.alloc (.cells #[.int .i64 0, .int .i64 0, .string ⟨#[]⟩] 23)
              replace L := L.alloc (.cells #[.int .i64 0, .int .i64 0, .string ⟨#[]⟩] 23)
              replace Wb := Wb.alloc (.cells #[.int .i64 0, .int .i64 0, .string ⟨#[]⟩] 23)
              replace YD := YD.alloc (.cells #[.int .i64 0, .int .i64 0, .string ⟨#[]⟩] 23)
              replace R := R.alloc (.cells #[.int .i64 0, .int .i64 0, .string ⟨#[]⟩] 23)
              replace R3 := R3.alloc (.cells #[.int .i64 0, .int .i64 0, .string ⟨#[]⟩] 23)
              replace b := b.alloc b.size (.cells #[.int .i64 0, .int .i64 0, .string ⟨#[]⟩] 23)
              refine hK.out _ _ (by exact ⟨X.at 0 rfl, X.at 1 rfl, X.at 2 rfl, L.at 1 rfl, cell_below C2.out b hbw⟩) (fun hHeld3 => ?_)
              clear hK hHeld2 K
              try simp only [Act.put, sA, sB, sC]
              generalize wg1.alloc (.cells #[.int .i64 0, .int .i64 0, .string ⟨#[]⟩] 23) = wg2 at *
              generalize wg1.heap.size = yrb2 at *
              refine wpAnyH_ready (rs := [15]) (by kernel_rfl) (by simp) (AllReadyH.cons (o := ⟨none, _, _, _, _, _⟩) rfl (fun K hK => ?_) AllReadyH.nil)
              have a0 := YD.at 0 rfl
              have a1 := YD.at 1 rfl
              have a2 := YD.at 2 rfl
              have ac := YD.cold
              go_simp
              replace R3 := R3.box3 YD (.slice A3 n3 c3) (.int .i64 y.fuse) (.bool y.down)
              replace R := R.box3 YD (.slice A3 n3 c3) (.int .i64 y.fuse) (.bool y.down)
              replace YR := YR.other3' (show yrb2 ≠ ydb1 by omega) (.slice A3 n3 c3) (.int .i64 y.fuse) (.bool y.down)
              replace X := X.other3' (show xb ≠ ydb1 by omega) (.slice A3 n3 c3) (.int .i64 y.fuse) (.bool y.down)
              replace L := L.other3' (show lb ≠ ydb1 by omega) (.slice A3 n3 c3) (.int .i64 y.fuse) (.bool y.down)
              replace Wb := Wb.other3' (show wb ≠ ydb1 by omega) (.slice A3 n3 c3) (.int .i64 y.fuse) (.bool y.down)
              replace YD := YD.three (.slice A3 n3 c3) (.int .i64 y.fuse) (.bool y.down)
              replace b := below_three b (show W.heap.size ≤ ydb1 by omega) (.slice A3 n3 c3) (.int .i64 y.fuse) (.bool y.down)
              clear a0 a1 a2 ac
              refine hK.out _ _ (by exact ⟨X.at 0 rfl, X.at 1 rfl, X.at 2 rfl, L.at 1 rfl, cell_below C2.out b hbw⟩) (fun hHeld4 => ?_)
              clear hK hHeld3 K
              try simp only [Act.put, sA, sB, sC]
              generalize ((wg2.setCell ⟨ydb1, 0, none⟩ (.slice A3 n3 c3)).setCell ⟨ydb1, 1, none⟩ (.int .i64 y.fuse)).setCell ⟨ydb1, 2, none⟩ (.bool y.down) = wh at *
              refine wpAnyH_ready (rs := [16]) (by kernel_rfl) (by simp) (AllReadyH.cons (o := ⟨none, _, _, _, _, _⟩) rfl (fun K hK => ?_) AllReadyH.nil)
              have a0 := YR.at 0 rfl
              have a1 := YR.at 1 rfl
              have a2 := YR.at 2 rfl
              have ac := YR.cold
              go_simp
              replace R3 := R3.box3 YR (.int .i64 rr.seq) (.int .i64 rr.gen) (.string (strB rr.note))
              replace R := R.box3 YR (.int .i64 rr.seq) (.int .i64 rr.gen) (.string (strB rr.note))
              replace YD := YD.other3' (show ydb1 ≠ yrb2 by omega) (.int .i64 rr.seq) (.int .i64 rr.gen) (.string (strB rr.note))
              replace X := X.other3' (show xb ≠ yrb2 by omega) (.int .i64 rr.seq) (.int .i64 rr.gen) (.string (strB rr.note))
              replace L := L.other3' (show lb ≠ yrb2 by omega) (.int .i64 rr.seq) (.int .i64 rr.gen) (.string (strB rr.note))
              replace Wb := Wb.other3' (show wb ≠ yrb2 by omega) (.int .i64 rr.seq) (.int .i64 rr.gen) (.string (strB rr.note))
              replace YR := YR.three (.int .i64 rr.seq) (.int .i64 rr.gen) (.string (strB rr.note))
              replace b := below_three b (show W.heap.size ≤ yrb2 by omega) (.int .i64 rr.seq) (.int .i64 rr.gen) (.string (strB rr.note))
              clear a0 a1 a2 ac
              refine hK.out _ _ (by exact ⟨X.at 0 rfl, X.at 1 rfl, X.at 2 rfl, L.at 1 rfl, cell_below C2.out b hbw⟩) (fun hHeld5 => ?_)
              clear hK hHeld4 K
              try simp only [Act.put, sA, sB, sC]
              refine tk 17 11 rfl hHeld5 ?_
              refine wpAnyH_done (by kernel_rfl) ?_ _
              clear hHeld5
              go_wp2_with fail
              go_meet
              exact ⟨ydb1, yrb2, A3, n3, c3, rfl, rfl, rfl, by omega, by omega, YD, YR, R3, X, R, L, Wb, b⟩
            · skip
              go_simp
              have hwYR : wb < wf0.heap.size := Wb.lt
              have YR := Box.new wf0 #[.int .i64 0, .int .i64 0, .string ⟨#[]⟩] 23
              replace X := X.alloc (.cells #[.int .i64 0, .int .i64 0, .string ⟨#[]⟩] 23)
              replace L := L.alloc (.cells #[.int .i64 0, .int .i64 0, .string ⟨#[]⟩] 23)
              replace Wb := Wb.alloc (.cells #[.int .i64 0, .int .i64 0, .string ⟨#[]⟩] 23)
              replace R := R.alloc (.cells #[.int .i64 0, .int .i64 0, .string ⟨#[]⟩] 23)
              replace R3 := R3.alloc (.cells #[.int .i64 0, .int .i64 0, .string ⟨#[]⟩] 23)
              replace b := b.alloc b.size (.cells #[.int .i64 0, .int .i64 0, .string ⟨#[]⟩] 23)
              refine hK.out _ _ (by exact ⟨X.at 0 rfl, X.at 1 rfl, X.at 2 rfl, L.at 1 rfl, cell_below C2.out b hbw⟩) (fun hHeld2 => ?_)
              clear hK hHeld1 K
              try simp only [Act.put, sA, sB, sC]
              generalize wf0.alloc (.cells #[.int .i64 0, .int .i64 0, .string ⟨#[]⟩] 23) = wg1 at *
              generalize wf0.heap.size = yrb1 at *
              refine wpAnyH_ready (rs := [13]) (by kernel_rfl) (by simp) (AllReadyH.cons (o := ⟨some 9, _, _, _, _, _⟩) rfl (fun K hK => ?_) AllReadyH.nil)
              go_simp
              have hwYD : wb < wg1.heap.size := Wb.lt
              have hoo : yrb1 < wg1.heap.size := YR.lt
              have YD := Box.new wg1 #[.slice none 0 0, .int .i64 0, .bool false] 34
              replace X := X.alloc (.cells #[.slice none 0 0, .int .i64 0, .bool false] 34)
              replace L := L.alloc (.cells #[.slice none 0 0, .int .i64 0, .bool false] 34)
              replace Wb := Wb.alloc (.cells #[.slice none 0 0, .int .i64 0, .bool false] 34)
              replace YR := YR.alloc (.cells #[.slice none 0 0, .int .i64 0, .bool false] 34)
              replace R := R.alloc (.cells #[.slice none 0 0, .int .i64 0, .bool false] 34)
              replace R3 := R3.alloc (.cells #[.slice none 0 0, .int .i64 0, .bool false] 34)
              replace b := b.alloc b.size (.cells #[.slice none 0 0, .int .i64 0, .bool false] 34)
              refine hK.out _ _ (by exact ⟨X.at 0 rfl, X.at 1 rfl, X.at 2 rfl, L.at 1 rfl, cell_below C2.out b hbw⟩) (fun hHeld3 => ?_)
              clear hK hHeld2 K
              try simp only [Act.put, sA, sB, sC]
              generalize wg1.alloc (.cells #[.slice none 0 0, .int .i64 0, .bool false] 34) = wg2 at *
              generalize wg1.heap.size = ydb2 at *
              refine wpAnyH_ready (rs := [15]) (by kernel_rfl) (by simp) (AllReadyH.cons (o := ⟨none, _, _, _, _, _⟩) rfl (fun K hK => ?_) AllReadyH.nil)
              have a0 := YD.at 0 rfl
              have a1 := YD.at 1 rfl
              have a2 := YD.at 2 rfl
              have ac := YD.cold
              go_simp
              replace R3 := R3.box3 YD (.slice A3 n3 c3) (.int .i64 y.fuse) (.bool y.down)
              replace R := R.box3 YD (.slice A3 n3 c3) (.int .i64 y.fuse) (.bool y.down)
              replace YR := YR.other3' (show yrb1 ≠ ydb2 by omega) (.slice A3 n3 c3) (.int .i64 y.fuse) (.bool y.down)
              replace X := X.other3' (show xb ≠ ydb2 by omega) (.slice A3 n3 c3) (.int .i64 y.fuse) (.bool y.down)
              replace L := L.other3' (show lb ≠ ydb2 by omega) (.slice A3 n3 c3) (.int .i64 y.fuse) (.bool y.down)
              replace Wb := Wb.other3' (show wb ≠ ydb2 by omega) (.slice A3 n3 c3) (.int .i64 y.fuse) (.bool y.down)
              replace YD := YD.three (.slice A3 n3 c3) (.int .i64 y.fuse) (.bool y.down)
              replace b := below_three b (show W.heap.size ≤ ydb2 by omega) (.slice A3 n3 c3) (.int .i64 y.fuse) (.bool y.down)
              clear a0 a1 a2 ac
              refine hK.out _ _ (by exact ⟨X.at 0 rfl, X.at 1 rfl, X.at 2 rfl, L.at 1 rfl, cell_below C2.out b hbw⟩) (fun hHeld4 => ?_)
              clear hK hHeld3 K
              try simp only [Act.put, sA, sB, sC]
              generalize ((wg2.setCell ⟨ydb2, 0, none⟩ (.slice A3 n3 c3)).setCell ⟨ydb2, 1, none⟩ (.int .i64 y.fuse)).setCell ⟨ydb2, 2, none⟩ (.bool y.down) = wh at *
              refine wpAnyH_ready (rs := [16]) (by kernel_rfl) (by simp) (AllReadyH.cons (o := ⟨none, _, _, _, _, _⟩) rfl (fun K hK => ?_) AllReadyH.nil)
              have a0 := YR.at 0 rfl
              have a1 := YR.at 1 rfl
              have a2 := YR.at 2 rfl
              have ac := YR.cold
              go_simp
              replace R3 := R3.box3 YR (.int .i64 rr.seq) (.int .i64 rr.gen) (.string (strB rr.note))
              replace R := R.box3 YR (.int .i64 rr.seq) (.int .i64 rr.gen) (.string (strB rr.note))
              replace YD := YD.other3' (show ydb2 ≠ yrb1 by omega) (.int .i64 rr.seq) (.int .i64 rr.gen) (.string (strB rr.note))
              replace X := X.other3' (show xb ≠ yrb1 by omega) (.int .i64 rr.seq) (.int .i64 rr.gen) (.string (strB rr.note))
              replace L := L.other3' (show lb ≠ yrb1 by omega) (.int .i64 rr.seq) (.int .i64 rr.gen) (.string (strB rr.note))
              replace Wb := Wb.other3' (show wb ≠ yrb1 by omega) (.int .i64 rr.seq) (.int .i64 rr.gen) (.string (strB rr.note))
              replace YR := YR.three (.int .i64 rr.seq) (.int .i64 rr.gen) (.string (strB rr.note))
              replace b := below_three b (show W.heap.size ≤ yrb1 by omega) (.int .i64 rr.seq) (.int .i64 rr.gen) (.string (strB rr.note))
              clear a0 a1 a2 ac
              refine hK.out _ _ (by exact ⟨X.at 0 rfl, X.at 1 rfl, X.at 2 rfl, L.at 1 rfl, cell_below C2.out b hbw⟩) (fun hHeld5 => ?_)
              clear hK hHeld4 K
              try simp only [Act.put, sA, sB, sC]
              refine tk 17 11 rfl hHeld5 ?_
              refine wpAnyH_done (by kernel_rfl) ?_ _
              clear hHeld5
              go_wp2_with fail
              go_meet
              exact ⟨ydb2, yrb1, A3, n3, c3, rfl, rfl, rfl, by omega, by omega, YD, YR, R3, X, R, L, Wb, b⟩
          · skip
            go_simp
            have hwYD : wb < we.heap.size := Wb.lt
            have YD := Box.new we #[.slice none 0 0, .int .i64 0, .bool false] 34
            replace X := X.alloc (.cells #[.slice none 0 0, .int .i64 0, .bool false] 34)
            replace L := L.alloc (.cells #[.slice none 0 0, .int .i64 0, .bool false] 34)
            replace Wb := Wb.alloc (.cells #[.slice none 0 0, .int .i64 0, .bool false] 34)
            replace R := R.alloc (.cells #[.slice none 0 0, .int .i64 0, .bool false] 34)
            replace b := b.alloc b.size (.cells #[.slice none 0 0, .int .i64 0, .bool false] 34)
            refine hK.out _ _ (by exact ⟨X.at 0 rfl, X.at 1 rfl, X.at 2 rfl, L.at 1 rfl, cell_below C2.out b hbw⟩) (fun hHeld1 => ?_)
            clear hK hHeld0 K
            try simp only [Act.put, sA, sB, sC]
            generalize we.alloc (.cells #[.slice none 0 0, .int .i64 0, .bool false] 34) = wg0 at *
            generalize we.heap.size = ydb0 at *
            refine wpAnyH_ready (rs := [8, 14]) (by kernel_rfl) (by simp) (AllReadyH.cons (o := ⟨some 71, _, _, _, _, _⟩) rfl (fun K hK => ?_) (AllReadyH.cons (o := ⟨some 10, _, _, _, _, _⟩) rfl (fun K hK => ?_) AllReadyH.nil))
            · skip
              go_simp
              refine (jwrite_at (d := ⟨l, φ, false⟩) A2 n2 c2 x.gen note HWR.out _ R hkn (by show φ ≤ _; omega) (by omega) hnote).mono ?_
              rintro e wf1 ⟨⟨A3, n3, c3, rfl, R3⟩, hb⟩
              (try dsimp only at R3)
              simp only [rv]
              (try dsimp only)
              replace X := X.belowH hb
              replace L := L.belowH hb
              replace Wb := Wb.belowH hb
              replace YD := YD.belowH hb
              replace R := R.belowH hb
              have hsz1 := hb.size
              replace b := b.trans (hb.mono b.size)
              clear hb
              go_simp
              refine hK.out _ _ (by exact ⟨X.at 0 rfl, X.at 1 rfl, X.at 2 rfl, L.at 1 rfl, cell_below C2.out b hbw⟩) (fun hHeld2 => ?_)
              clear hK hHeld1 K
              try simp only [Act.put, sA, sB, sC]
              refine tk 9 62 rfl hHeld2 ?_
              refine tk 10 72 rfl hHeld2 ?_
              refine tk 11 73 rfl hHeld2 ?_
              refine tk 12 74 rfl hHeld2 ?_
              refine wpAnyH_ready (rs := [14]) (by kernel_rfl) (by simp) (AllReadyH.cons (o := ⟨some 10, _, _, _, _, _⟩) rfl (fun K hK => ?_) AllReadyH.nil)
              go_simp
              have hwYR : wb < wf1.heap.size := Wb.lt
              have hoo : ydb0 < wf1.heap.size := YD.lt
              have YR := Box.new wf1 #[.int .i64 0, .int .i64 0, .string ⟨#[]⟩] 23
              replace X := X.alloc (.cells #[.int .i64 0, .int .i64 0, .string ⟨#[]⟩] 23)
              replace L := L.alloc (.cells #[.int .i64 0, .int .i64 0, .string ⟨#[]⟩] 23)
              replace Wb := Wb.alloc (.cells #[.int .i64 0, .int .i64 0, .string ⟨#[]⟩] 23)
              replace YD := YD.alloc (.cells #[.int .i64 0, .int .i64 0, .string ⟨#[]⟩] 23)
              replace R := R.alloc (.cells #[.int .i64 0, .int .i64 0, .string ⟨#[]⟩] 23)
              replace R3 := R3.alloc (.cells #[.int .i64 0, .int .i64 0, .string ⟨#[]⟩] 23)
              replace b := b.alloc b.size (.cells #[.int .i64 0, .int .i64 0, .string ⟨#[]⟩] 23)
              refine hK.out _ _ (by exact ⟨X.at 0 rfl, X.at 1 rfl, X.at 2 rfl, L.at 1 rfl, cell_below C2.out b hbw⟩) (fun hHeld3 => ?_)
              clear hK hHeld2 K
              try simp only [Act.put, sA, sB, sC]
              generalize wf1.alloc (.cells #[.int .i64 0, .int .i64 0, .string ⟨#[]⟩] 23) = wg2 at *
              generalize wf1.heap.size = yrb2 at *
              refine wpAnyH_ready (rs := [15]) (by kernel_rfl) (by simp) (AllReadyH.cons (o := ⟨none, _, _, _, _, _⟩) rfl (fun K hK => ?_) AllReadyH.nil)
              have a0 := YD.at 0 rfl
              have a1 := YD.at 1 rfl
              have a2 := YD.at 2 rfl
              have ac := YD.cold
              go_simp
              replace R3 := R3.box3 YD (.slice A3 n3 c3) (.int .i64 y.fuse) (.bool y.down)
              replace R := R.box3 YD (.slice A3 n3 c3) (.int .i64 y.fuse) (.bool y.down)
              replace YR := YR.other3' (show yrb2 ≠ ydb0 by omega) (.slice A3 n3 c3) (.int .i64 y.fuse) (.bool y.down)
              replace X := X.other3' (show xb ≠ ydb0 by omega) (.slice A3 n3 c3) (.int .i64 y.fuse) (.bool y.down)
              replace L := L.other3' (show lb ≠ ydb0 by omega) (.slice A3 n3 c3) (.int .i64 y.fuse) (.bool y.down)
              replace Wb := Wb.other3' (show wb ≠ ydb0 by omega) (.slice A3 n3 c3) (.int .i64 y.fuse) (.bool y.down)
              replace YD := YD.three (.slice A3 n3 c3) (.int .i64 y.fuse) (.bool y.down)
              replace b := below_three b (show W.heap.size ≤ ydb0 by omega) (.slice A3 n3 c3) (.int .i64 y.fuse) (.bool y.down)
              clear a0 a1 a2 ac
              refine hK.out _ _ (by exact ⟨X.at 0 rfl, X.at 1 rfl, X.at 2 rfl, L.at 1 rfl, cell_below C2.out b hbw⟩) (fun hHeld4 => ?_)
              clear hK hHeld3 K
              try simp only [Act.put, sA, sB, sC]
              generalize ((wg2.setCell ⟨ydb0, 0, none⟩ (.slice A3 n3 c3)).setCell ⟨ydb0, 1, none⟩ (.int .i64 y.fuse)).setCell ⟨ydb0, 2, none⟩ (.bool y.down) = wh at *
              refine wpAnyH_ready (rs := [16]) (by kernel_rfl) (by simp) (AllReadyH.cons (o := ⟨none, _, _, _, _, _⟩) rfl (fun K hK => ?_) AllReadyH.nil)
              have a0 := YR.at 0 rfl
              have a1 := YR.at 1 rfl
              have a2 := YR.at 2 rfl
              have ac := YR.cold
              go_simp
              replace R3 := R3.box3 YR (.int .i64 rr.seq) (.int .i64 rr.gen) (.string (strB rr.note))
              replace R := R.box3 YR (.int .i64 rr.seq) (.int .i64 rr.gen) (.string (strB rr.note))
              replace YD := YD.other3' (show ydb0 ≠ yrb2 by omega) (.int .i64 rr.seq) (.int .i64 rr.gen) (.string (strB rr.note))
              replace X := X.other3' (show xb ≠ yrb2 by omega) (.int .i64 rr.seq) (.int .i64 rr.gen) (.string (strB rr.note))
              replace L := L.other3' (show lb ≠ yrb2 by omega) (.int .i64 rr.seq) (.int .i64 rr.gen) (.string (strB rr.note))
              replace Wb := Wb.other3' (show wb ≠ yrb2 by omega) (.int .i64 rr.seq) (.int .i64 rr.gen) (.string (strB rr.note))
              replace YR := YR.three (.int .i64 rr.seq) (.int .i64 rr.gen) (.string (strB rr.note))
              replace b := below_three b (show W.heap.size ≤ yrb2 by omega) (.int .i64 rr.seq) (.int .i64 rr.gen) (.string (strB rr.note))
              clear a0 a1 a2 ac
              refine hK.out _ _ (by exact ⟨X.at 0 rfl, X.at 1 rfl, X.at 2 rfl, L.at 1 rfl, cell_below C2.out b hbw⟩) (fun hHeld5 => ?_)
              clear hK hHeld4 K
              try simp only [Act.put, sA, sB, sC]
              refine tk 17 11 rfl hHeld5 ?_
              refine wpAnyH_done (by kernel_rfl) ?_ _
              clear hHeld5
              go_wp2_with fail
              go_meet
              exact ⟨ydb0, yrb2, A3, n3, c3, rfl, rfl, rfl, by omega, by omega, YD, YR, R3, X, R, L, Wb, b⟩
            · skip
              go_simp
              have hwYR : wb < wg0.heap.size := Wb.lt
              have hoo : ydb0 < wg0.heap.size := YD.lt
              have YR := Box.new wg0 #[.int .i64 0, .int .i64 0, .string ⟨#[]⟩] 23
              replace X := X.alloc (.cells #[.int .i64 0, .int .i64 0, .string ⟨#[]⟩] 23)
              replace L := L.alloc (.cells #[.int .i64 0, .int .i64 0, .string ⟨#[]⟩] 23)
              replace Wb := Wb.alloc (.cells #[.int .i64 0, .int .i64 0, .string ⟨#[]⟩] 23)
              replace YD := YD.alloc (.cells #[.int .i64 0, .int .i64 0, .string ⟨#[]⟩] 23)
              replace R := R.alloc (.cells #[.int .i64 0, .int .i64 0, .string ⟨#[]⟩] 23)
              replace b := b.alloc b.size (.cells #[.int .i64 0, .int .i64 0, .string ⟨#[]⟩] 23)
              refine hK.out _ _ (by exact ⟨X.at 0 rfl, X.at 1 rfl, X.at 2 rfl, L.at 1 rfl, cell_below C2.out b hbw⟩) (fun hHeld2 => ?_)
              clear hK hHeld1 K
              try simp only [Act.put, sA, sB, sC]
              generalize wg0.alloc (.cells #[.int .i64 0, .int .i64 0, .string ⟨#[]⟩] 23) = wg1 at *
              generalize wg0.heap.size = yrb1 at *
              refine wpAnyH_ready (rs := [8]) (by kernel_rfl) (by simp) (AllReadyH.cons (o := ⟨some 71, _, _, _, _, _⟩) rfl (fun K hK => ?_) AllReadyH.nil)
              go_simp
              refine (jwrite_at (d := ⟨l, φ, false⟩) A2 n2 c2 x.gen note HWR.out _ R hkn (by show φ ≤ _; omega) (by omega) hnote).mono ?_
              rintro e wf2 ⟨⟨A3, n3, c3, rfl, R3⟩, hb⟩
              (try dsimp only at R3)
              simp only [rv]
              (try dsimp only)
              replace X := X.belowH hb
              replace L := L.belowH hb
              replace Wb := Wb.belowH hb
              replace YD := YD.belowH hb
              replace YR := YR.belowH hb
              replace R := R.belowH hb
              have hsz2 := hb.size
              replace b := b.trans (hb.mono b.size)
              clear hb
              go_simp
              refine hK.out _ _ (by exact ⟨X.at 0 rfl, X.at 1 rfl, X.at 2 rfl, L.at 1 rfl, cell_below C2.out b hbw⟩) (fun hHeld3 => ?_)
              clear hK hHeld2 K
              try simp only [Act.put, sA, sB, sC]
              refine tk 9 62 rfl hHeld3 ?_
              refine tk 10 72 rfl hHeld3 ?_
              refine tk 11 73 rfl hHeld3 ?_
              refine tk 12 74 rfl hHeld3 ?_
              refine wpAnyH_ready (rs := [15]) (by kernel_rfl) (by simp) (AllReadyH.cons (o := ⟨none, _, _, _, _, _⟩) rfl (fun K hK => ?_) AllReadyH.nil)
              have a0 := YD.at 0 rfl
              have a1 := YD.at 1 rfl
              have a2 := YD.at 2 rfl
              have ac := YD.cold
              go_simp
              replace R3 := R3.box3 YD (.slice A3 n3 c3) (.int .i64 y.fuse) (.bool y.down)
              replace R := R.box3 YD (.slice A3 n3 c3) (.int .i64 y.fuse) (.bool y.down)
              replace YR := YR.other3' (show yrb1 ≠ ydb0 by omega) (.slice A3 n3 c3) (.int .i64 y.fuse) (.bool y.down)
              replace X := X.other3' (show xb ≠ ydb0 by omega) (.slice A3 n3 c3) (.int .i64 y.fuse) (.bool y.down)
              replace L := L.other3' (show lb ≠ ydb0 by omega) (.slice A3 n3 c3) (.int .i64 y.fuse) (.bool y.down)
              replace Wb := Wb.other3' (show wb ≠ ydb0 by omega) (.slice A3 n3 c3) (.int .i64 y.fuse) (.bool y.down)
              replace YD := YD.three (.slice A3 n3 c3) (.int .i64 y.fuse) (.bool y.down)
              replace b := below_three b (show W.heap.size ≤ ydb0 by omega) (.slice A3 n3 c3) (.int .i64 y.fuse) (.bool y.down)
              clear a0 a1 a2 ac
              refine hK.out _ _ (by exact ⟨X.at 0 rfl, X.at 1 rfl, X.at 2 rfl, L.at 1 rfl, cell_below C2.out b hbw⟩) (fun hHeld4 => ?_)
              clear hK hHeld3 K
              try simp only [Act.put, sA, sB, sC]
              generalize ((wf2.setCell ⟨ydb0, 0, none⟩ (.slice A3 n3 c3)).setCell ⟨ydb0, 1, none⟩ (.int .i64 y.fuse)).setCell ⟨ydb0, 2, none⟩ (.bool y.down) = wh at *
              refine wpAnyH_ready (rs := [16]) (by kernel_rfl) (by simp) (AllReadyH.cons (o := ⟨none, _, _, _, _, _⟩) rfl (fun K hK => ?_) AllReadyH.nil)
              have a0 := YR.at 0 rfl
              have a1 := YR.at 1 rfl
              have a2 := YR.at 2 rfl
              have ac := YR.cold
              go_simp
              replace R3 := R3.box3 YR (.int .i64 rr.seq) (.int .i64 rr.gen) (.string (strB rr.note))
              replace R := R.box3 YR (.int .i64 rr.seq) (.int .i64 rr.gen) (.string (strB rr.note))
              replace YD := YD.other3' (show ydb0 ≠ yrb1 by omega) (.int .i64 rr.seq) (.int .i64 rr.gen) (.string (strB rr.note))
              replace X := X.other3' (show xb ≠ yrb1 by omega) (.int .i64 rr.seq) (.int .i64 rr.gen) (.string (strB rr.note))
              replace L := L.other3' (show lb ≠ yrb1 by omega) (.int .i64 rr.seq) (.int .i64 rr.gen) (.string (strB rr.note))
              replace Wb := Wb.other3' (show wb ≠ yrb1 by omega) (.int .i64 rr.seq) (.int .i64 rr.gen) (.string (strB rr.note))
              replace YR := YR.three (.int .i64 rr.seq) (.int .i64 rr.gen) (.string (strB rr.note))
              replace b := below_three b (show W.heap.size ≤ yrb1 by omega) (.int .i64 rr.seq) (.int .i64 rr.gen) (.string (strB rr.note))
              clear a0 a1 a2 ac
              refine hK.out _ _ (by exact ⟨X.at 0 rfl, X.at 1 rfl, X.at 2 rfl, L.at 1 rfl, cell_below C2.out b hbw⟩) (fun hHeld5 => ?_)
              clear hK hHeld4 K
              try simp only [Act.put, sA, sB, sC]
              refine tk 17 11 rfl hHeld5 ?_
              refine wpAnyH_done (by kernel_rfl) ?_ _
              clear hHeld5
              go_wp2_with fail
              go_meet
              exact ⟨ydb0, yrb1, A3, n3, c3, rfl, rfl, rfl, by omega, by omega, YD, YR, R3, X, R, L, Wb, b⟩
          · skip
            go_simp
            have hwYR : wb < we.heap.size := Wb.lt
            have YR := Box.new we #[.int .i64 0, .int .i64 0, .string ⟨#[]⟩] 23
            replace X := X.alloc (.cells #[.int .i64 0, .int .i64 0, .string ⟨#[]⟩] 23)
            replace L := L.alloc (.cells #[.int .i64 0, .int .i64 0, .string ⟨#[]⟩] 23)
            replace Wb := Wb.alloc (.cells #[.int .i64 0, .int .i64 0, .string ⟨#[]⟩] 23)
            replace R := R.alloc (.cells #[.int .i64 0, .int .i64 0, .string ⟨#[]⟩] 23)
            replace b := b.alloc b.size (.cells #[.int .i64 0, .int .i64 0, .string ⟨#[]⟩] 23)
            refine hK.out _ _ (by exact ⟨X.at 0 rfl, X.at 1 rfl, X.at 2 rfl, L.at 1 rfl, cell_below C2.out b hbw⟩) (fun hHeld1 => ?_)
            clear hK hHeld0 K
            try simp only [Act.put, sA, sB, sC]
            generalize we.alloc (.cells #[.int .i64 0, .int .i64 0, .string ⟨#[]⟩] 23) = wg0 at *
            generalize we.heap.size = yrb0 at *
            refine wpAnyH_ready (rs := [8, 13]) (by kernel_rfl) (by simp) (AllReadyH.cons (o := ⟨some 71, _, _, _, _, _⟩) rfl (fun K hK => ?_) (AllReadyH.cons (o := ⟨some 9, _, _, _, _, _⟩) rfl (fun K hK => ?_) AllReadyH.nil))
            · skip
              go_simp
              refine (jwrite_at (d := ⟨l, φ, false⟩) A2 n2 c2 x.gen note HWR.out _ R hkn (by show φ ≤ _; omega) (by omega) hnote).mono ?_
              rintro e wf1 ⟨⟨A3, n3, c3, rfl, R3⟩, hb⟩
              (try dsimp only at R3)
              simp only [rv]
              (try dsimp only)
              replace X := X.belowH hb
              replace L := L.belowH hb
              replace Wb := Wb.belowH hb
              replace YR := YR.belowH hb
              replace R := R.belowH hb
              have hsz1 := hb.size
              replace b := b.trans (hb.mono b.size)
              clear hb
              go_simp
              refine hK.out _ _ (by exact ⟨X.at 0 rfl, X.at 1 rfl, X.at 2 rfl, L.at 1 rfl, cell_below C2.out b hbw⟩) (fun hHeld2 => ?_)
              clear hK hHeld1 K
              try simp only [Act.put, sA, sB, sC]
              refine tk 9 62 rfl hHeld2 ?_
              refine tk 10 72 rfl hHeld2 ?_
              refine tk 11 73 rfl hHeld2 ?_
              refine tk 12 74 rfl hHeld2 ?_
              refine wpAnyH_ready (rs := [13]) (by kernel_rfl) (by simp) (AllReadyH.cons (o := ⟨some 9, _, _, _, _, _⟩) rfl (fun K hK => ?_) AllReadyH.nil)
              go_simp
              have hwYD : wb < wf1.heap.size := Wb.lt
              have hoo : yrb0 < wf1.heap.size := YR.lt
              have YD := Box.new wf1 #[.slice none 0 0, .int .i64 0, .bool false] 34
              replace X := X.alloc (.cells #[.slice none 0 0, .int .i64 0, .bool false] 34)
              replace L := L.alloc (.cells #[.slice none 0 0, .int .i64 0, .bool false] 34)
              replace Wb := Wb.alloc (.cells #[.slice none 0 0, .int .i64 0, .bool false] 34)
              replace YR := YR.alloc (.cells #[.slice none 0 0, .int .i64 0, .bool false] 34)
              replace R := R.alloc (.cells #[.slice none 0 0, .int .i64 0, .bool false] 34)
              replace R3 := R3.alloc (.cells #[.slice none 0 0, .int .i64 0, .bool false] 34)
              replace b := b.alloc b.size (.cells #[.slice none 0 0, .int .i64 0, .bool false] 34)
              refine hK.out _ _ (by exact ⟨X.at 0 rfl, X.at 1 rfl, X.at 2 rfl, L.at 1 rfl, cell_below C2.out b hbw⟩) (fun hHeld3 => ?_)
              clear hK hHeld2 K
              try simp only [Act.put, sA, sB, sC]
              generalize wf1.alloc (.cells #[.slice none 0 0, .int .i64 0, .bool false] 34) = wg2 at *
              generalize wf1.heap.size = ydb2 at *
              refine wpAnyH_ready (rs := [15]) (by kernel_rfl) (by simp) (AllReadyH.cons (o := ⟨none, _, _, _, _, _⟩) rfl (fun K hK => ?_) AllReadyH.nil)
              have a0 := YD.at 0 rfl
              have a1 := YD.at 1 rfl
              have a2 := YD.at 2 rfl
              have ac := YD.cold
              go_simp
              replace R3 := R3.box3 YD (.slice A3 n3 c3) (.int .i64 y.fuse) (.bool y.down)
              replace R := R.box3 YD (.slice A3 n3 c3) (.int .i64 y.fuse) (.bool y.down)
              replace YR := YR.other3' (show yrb0 ≠ ydb2 by omega) (.slice A3 n3 c3) (.int .i64 y.fuse) (.bool y.down)
              replace X := X.other3' (show xb ≠ ydb2 by omega) (.slice A3 n3 c3) (.int .i64 y.fuse) (.bool y.down)
              replace L := L.other3' (show lb ≠ ydb2 by omega) (.slice A3 n3 c3) (.int .i64 y.fuse) (.bool y.down)
              replace Wb := Wb.other3' (show wb ≠ ydb2 by omega) (.slice A3 n3 c3) (.int .i64 y.fuse) (.bool y.down)
              replace YD := YD.three (.slice A3 n3 c3) (.int .i64 y.fuse) (.bool y.down)
              replace b := below_three b (show W.heap.size ≤ ydb2 by omega) (.slice A3 n3 c3) (.int .i64 y.fuse) (.bool y.down)
              clear a0 a1 a2 ac
              refine hK.out _ _ (by exact ⟨X.at 0 rfl, X.at 1 rfl, X.at 2 rfl, L.at 1 rfl, cell_below C2.out b hbw⟩) (fun hHeld4 => ?_)
              clear hK hHeld3 K
              try simp only [Act.put, sA, sB, sC]
              generalize ((wg2.setCell ⟨ydb2, 0, none⟩ (.slice A3 n3 c3)).setCell ⟨ydb2, 1, none⟩ (.int .i64 y.fuse)).setCell ⟨ydb2, 2, none⟩ (.bool y.down) = wh at *
              refine wpAnyH_ready (rs := [16]) (by kernel_rfl) (by simp) (AllReadyH.cons (o := ⟨none, _, _, _, _, _⟩) rfl (fun K hK => ?_) AllReadyH.nil)
              have a0 := YR.at 0 rfl
              have a1 := YR.at 1 rfl
              have a2 := YR.at 2 rfl
              have ac := YR.cold
              go_simp
              replace R3 := R3.box3 YR (.int .i64 rr.seq) (.int .i64 rr.gen) (.string (strB rr.note))
              replace R := R.box3 YR (.int .i64 rr.seq) (.int .i64 rr.gen) (.string (strB rr.note))
              replace YD := YD.other3' (show ydb2 ≠ yrb0 by omega) (.int .i64 rr.seq) (.int .i64 rr.gen) (.string (strB rr.note))
              replace X := X.other3' (show xb ≠ yrb0 by omega) (.int .i64 rr.seq) (.int .i64 rr.gen) (.string (strB rr.note))
              replace L := L.other3' (show lb ≠ yrb0 by omega) (.int .i64 rr.seq) (.int .i64 rr.gen) (.string (strB rr.note))
              replace Wb := Wb.other3' (show wb ≠ yrb0 by omega) (.int .i64 rr.seq) (.int .i64 rr.gen) (.string (strB rr.note))
              replace YR := YR.three (.int .i64 rr.seq) (.int .i64 rr.gen) (.string (strB rr.note))
              replace b := below_three b (show W.heap.size ≤ yrb0 by omega) (.int .i64 rr.seq) (.int .i64 rr.gen) (.string (strB rr.note))
              clear a0 a1 a2 ac
              refine hK.out _ _ (by exact ⟨X.at 0 rfl, X.at 1 rfl, X.at 2 rfl, L.at 1 rfl, cell_below C2.out b hbw⟩) (fun hHeld5 => ?_)
              clear hK hHeld4 K
              try simp only [Act.put, sA, sB, sC]
              refine tk 17 11 rfl hHeld5 ?_
              refine wpAnyH_done (by kernel_rfl) ?_ _
              clear hHeld5
              go_wp2_with fail
              go_meet
              exact ⟨ydb2, yrb0, A3, n3, c3, rfl, rfl, rfl, by omega, by omega, YD, YR, R3, X, R, L, Wb, b⟩
            · skip
              go_simp
              have hwYD : wb < wg0.heap.size := Wb.lt
              have hoo : yrb0 < wg0.heap.size := YR.lt
              have YD := Box.new wg0 #[.slice none 0 0, .int .i64 0, .bool false] 34
              replace X := X.alloc (.cells #[.slice none 0 0, .int .i64 0, .bool false] 34)
              replace L := L.alloc (.cells #[.slice none 0 0, .int .i64 0, .bool false] 34)
              replace Wb := Wb.alloc (.cells #[.slice none 0 0, .int .i64 0, .bool false] 34)
              replace YR := YR.alloc (.cells #[.slice none 0 0, .int .i64 0, .bool false] 34)
              replace R := R.alloc (.cells #[.slice none 0 0, .int .i64 0, .bool false] 34)
              replace b := b.alloc b.size (.cells #[.slice none 0 0, .int .i64 0, .bool false] 34)
              refine hK.out _ _ (by exact ⟨X.at 0 rfl, X.at 1 rfl, X.at 2 rfl, L.at 1 rfl, cell_below C2.out b hbw⟩) (fun hHeld2 => ?_)
              clear hK hHeld1 K
              try simp only [Act.put, sA, sB, sC]
              generalize wg0.alloc (.cells #[.slice none 0 0, .int .i64 0, .bool false] 34) = wg1 at *
              generalize wg0.heap.size = ydb1 at *
              refine wpAnyH_ready (rs := [8]) (by kernel_rfl) (by simp) (AllReadyH.cons (o := ⟨some 71, _, _, _, _, _⟩) rfl (fun K hK => ?_) AllReadyH.nil)
              go_simp
              refine (jwrite_at (d := ⟨l, φ, false⟩) A2 n2 c2 x.gen note HWR.out _ R hkn (by show φ ≤ _; omega) (by omega) hnote).mono ?_
              rintro e wf2 ⟨⟨A3, n3, c3, rfl, R3⟩, hb⟩
              (try dsimp only at R3)
              simp only [rv]
              (try dsimp only)
              replace X := X.belowH hb
              replace L := L.belowH hb
              replace Wb := Wb.belowH hb
              replace YD := YD.belowH hb
              replace YR := YR.belowH hb
              replace R := R.belowH hb
              have hsz2 := hb.size
              replace b := b.trans (hb.mono b.size)
              clear hb
              go_simp
              refine hK.out _ _ (by exact ⟨X.at 0 rfl, X.at 1 rfl, X.at 2 rfl, L.at 1 rfl, cell_below C2.out b hbw⟩) (fun hHeld3 => ?_)
              clear hK hHeld2 K
              try simp only [Act.put, sA, sB, sC]
              refine tk 9 62 rfl hHeld3 ?_
              refine tk 10 72 rfl hHeld3 ?_
              refine tk 11 73 rfl hHeld3 ?_
              refine tk 12 74 rfl hHeld3 ?_
              refine wpAnyH_ready (rs := [15]) (by kernel_rfl) (by simp) (AllReadyH.cons (o := ⟨none, _, _, _, _, _⟩) rfl (fun K hK => ?_) AllReadyH.nil)
              have a0 := YD.at 0 rfl
              have a1 := YD.at 1 rfl
              have a2 := YD.at 2 rfl
              have ac := YD.cold
              go_simp
              replace R3 := R3.box3 YD (.slice A3 n3 c3) (.int .i64 y.fuse) (.bool y.down)
              replace R := R.box3 YD (.slice A3 n3 c3) (.int .i64 y.fuse) (.bool y.down)
              replace YR := YR.other3' (show yrb0 ≠ ydb1 by omega) (.slice A3 n3 c3) (.int .i64 y.fuse) (.bool y.down)
              replace X := X.other3' (show xb ≠ ydb1 by omega) (.slice A3 n3 c3) (.int .i64 y.fuse) (.bool y.down)
              replace L := L.other3' (show lb ≠ ydb1 by omega) (.slice A3 n3 c3) (.int .i64 y.fuse) (.bool y.down)
              replace Wb := Wb.other3' (show wb ≠ ydb1 by omega) (.slice A3 n3 c3) (.int .i64 y.fuse) (.bool y.down)
              replace YD := YD.three (.slice A3 n3 c3) (.int .i64 y.fuse) (.bool y.down)
              replace b := below_three b (show W.heap.size ≤ ydb1 by omega) (.slice A3 n3 c3) (.int .i64 y.fuse) (.bool y.down)
              clear a0 a1 a2 ac
              refine hK.out _ _ (by exact ⟨X.at 0 rfl, X.at 1 rfl, X.at 2 rfl, L.at 1 rfl, cell_below C2.out b hbw⟩) (fun hHeld4 => ?_)
              clear hK hHeld3 K
              try simp only [Act.put, sA, sB, sC]
              generalize ((wf2.setCell ⟨ydb1, 0, none⟩ (.slice A3 n3 c3)).setCell ⟨ydb1, 1, none⟩ (.int .i64 y.fuse)).setCell ⟨ydb1, 2, none⟩ (.bool y.down) = wh at *
              refine wpAnyH_ready (rs := [16]) (by kernel_rfl) (by simp) (AllReadyH.cons (o := ⟨none, _, _, _, _, _⟩) rfl (fun K hK => ?_) AllReadyH.nil)
              have a0 := YR.at 0 rfl
              have a1 := YR.at 1 rfl
              have a2 := YR.at 2 rfl
              have ac := YR.cold
              go_simp
              replace R3 := R3.box3 YR (.int .i64 rr.seq) (.int .i64 rr.gen) (.string (strB rr.note))
              replace R := R.box3 YR (.int .i64 rr.seq) (.int .i64 rr.gen) (.string (strB rr.note))
              replace YD := YD.other3' (show ydb1 ≠ yrb0 by omega) (.int .i64 rr.seq) (.int .i64 rr.gen) (.string (strB rr.note))
              replace X := X.other3' (show xb ≠ yrb0 by omega) (.int .i64 rr.seq) (.int .i64 rr.gen) (.string (strB rr.note))
              replace L := L.other3' (show lb ≠ yrb0 by omega) (.int .i64 rr.seq) (.int .i64 rr.gen) (.string (strB rr.note))
              replace Wb := Wb.other3' (show wb ≠ yrb0 by omega) (.int .i64 rr.seq) (.int .i64 rr.gen) (.string (strB rr.note))
              replace YR := YR.three (.int .i64 rr.seq) (.int .i64 rr.gen) (.string (strB rr.note))
              replace b := below_three b (show W.heap.size ≤ yrb0 by omega) (.int .i64 rr.seq) (.int .i64 rr.gen) (.string (strB rr.note))
              clear a0 a1 a2 ac
              refine hK.out _ _ (by exact ⟨X.at 0 rfl, X.at 1 rfl, X.at 2 rfl, L.at 1 rfl, cell_below C2.out b hbw⟩) (fun hHeld5 => ?_)
              clear hK hHeld4 K
              try simp only [Act.put, sA, sB, sC]
              refine tk 17 11 rfl hHeld5 ?_
              refine wpAnyH_done (by kernel_rfl) ?_ _
              clear hHeld5
              go_wp2_with fail
              go_meet
              exact ⟨ydb1, yrb0, A3, n3, c3, rfl, rfl, rfl, by omega, by omega, YD, YR, R3, X, R, L, Wb, b⟩
        case rest =>
          clear X L R Wb b
          obtain ⟨yb, rb, A3, n3, c3, rfl, rfl, rfl, ⟨hy1, hy2⟩, ⟨hs1, hs2, hs3, hs4, hs5, hs6, hs7⟩, YD, YR, R3, X, R, L, Wb, b⟩ := hcut
          have d0 := cell_below C0.out b hbw
          go_upto_if 79 with fail
          clear d0
          go_cut [11] (Dared W xb lb wb yb rb l φ x bN note)
          case first =>
            cases bN
            · skip
              obtain ⟨d', r', er', heq, hlen, hf1, hf2, hcase⟩ := J.write_cases (d := ⟨l, φ, false⟩) (x := x) (gen := x.gen) (note := note) RTD.out rfl HIL.out (by show 2 ≤ l.length; have := HL3.out; omega) (Int.le_refl _) (by omega) h30' (by omega)
              obtain ⟨e3, e4, e5⟩ : y = d' ∧ rr = r' ∧ er = er' := by have e := HWR.out.symm.trans heq; simpa using e
              subst e3 e4 e5
              have HC : Hid (Case l φ x (x.gen + if false then 1 else 0) note y rr er) := Lib.hid (by
                refine ⟨hlen, hf1, hf2, ?_⟩
                rcases hcase with ⟨h1, h2, h3, h4, _⟩ | ⟨h1, _, h3, _, h5⟩
                · exact Or.inl ⟨h1, by simpa using h2, h3, by simpa using h4⟩
                · exact Or.inr ⟨h1, h3, h5⟩)
              clear hlen hf1 hf2 hcase heq
              go_wp2_with fail
              go_meet
              exact ⟨y, rr, er, A3, n3, c3, rfl, HC.out, YD, YR, R3, ⟨_, _, _, X⟩, L, Wb, b⟩
            · skip
              obtain ⟨d', r', er', heq, hlen, hf1, hf2, hcase⟩ := J.write_cases (d := ⟨l, φ, false⟩) (x := x) (gen := x.gen + 1) (note := note) RTD.out rfl HIL.out (by show 2 ≤ l.length; have := HL3.out; omega) (by omega) (by omega) h30' (by omega)
              have ENX : Hid (J.next ⟨l, φ, false⟩ note = (d', r', er')) := Lib.hid (by rw [J.next_w (J.last_of RTD.out rfl HIL.out) (by omega)]; exact heq)
              have HC : Hid (Case l φ x (x.gen + if true then 1 else 0) note d' r' er') := Lib.hid (by
                refine ⟨hlen, hf1, hf2, ?_⟩
                rcases hcase with ⟨h1, h2, h3, h4, _⟩ | ⟨h1, _, h3, _, h5⟩
                · exact Or.inl ⟨h1, by simpa using h2, h3, by simpa using h4⟩
                · exact Or.inr ⟨h1, h3, h5⟩)
              clear hlen hf1 hf2 hcase heq
              go_upto_region 19 with fail
              replace X := X.drew
              replace L := L.drew
              replace Wb := Wb.drew
              replace YD := YD.drew
              replace YR := YR.drew
              replace R := R.drew
              replace b := b.drew
              clear R3
              refine wp_region_held_drew (S := (fun w' => w'.cell? ⟨xb, 0, none⟩ = some (.slice A2 n2 c2) ∧ w'.cell? ⟨xb, 1, none⟩ = some (.int .i64 φ) ∧ w'.cell? ⟨xb, 2, none⟩ = some (.bool false) ∧ w'.cell? ⟨bw, ow + k * 3 + 2, none⟩ = some (.string (strB note)))) (by kernel_rfl) (by exact ⟨X.at 0 rfl, X.at 1 rfl, X.at 2 rfl, cell_below C2.out b hbw⟩) (fun hHeld0 => ?_)
              generalize wc.drew = wj at *
              refine tk 0 81 rfl hHeld0 ?_
              refine tk 1 82 rfl hHeld0 ?_
              refine tk 2 83 rfl hHeld0 ?_
              refine tk 3 84 rfl hHeld0 ?_
              refine tk 4 85 rfl hHeld0 ?_
              refine tk 5 86 rfl hHeld0 ?_
              refine wpAnyH_ready (rs := [6]) (by kernel_rfl) (by simp) (AllReadyH.cons (o := ⟨some 87, _, _, _, _, _⟩) rfl (fun K hK => ?_) AllReadyH.nil)
              go_simp
              refine (jnext_at (d := ⟨l, φ, false⟩) A2 n2 c2 note ENX.out _ R hkn (by show φ ≤ _; omega) hnote).mono ?_
              rintro e wk ⟨⟨A4, n4, c4, rfl, R4⟩, hb⟩
              (try dsimp only at R4)
              simp only [rv]
              (try dsimp only)
              replace X := X.belowH hb
              replace L := L.belowH hb
              replace Wb := Wb.belowH hb
              replace YD := YD.belowH hb
              replace YR := YR.belowH hb
              replace b := b.trans (hb.mono b.size)
              clear hb
              clear R
              go_simp
              refine hK.out _ _ (by exact ⟨X.at 0 rfl, X.at 1 rfl, X.at 2 rfl, cell_below C2.out b hbw⟩) (fun hHeld1 => ?_)
              clear hK hHeld0 K
              try simp only [Act.put, sA, sB, sC]
              refine tk 7 80 rfl hHeld1 ?_
              refine tk 8 88 rfl hHeld1 ?_
              refine tk 9 89 rfl hHeld1 ?_
              refine tk 10 90 rfl hHeld1 ?_
              refine wpAnyH_ready (rs := [11]) (by kernel_rfl) (by simp) (AllReadyH.cons (o := ⟨none, _, _, _, _, _⟩) rfl (fun K hK => ?_) AllReadyH.nil)
              have a0 := YD.at 0 rfl
              have a1 := YD.at 1 rfl
              have a2 := YD.at 2 rfl
              have ac := YD.cold
              go_simp
              replace R4 := R4.box3 YD (.slice A4 n4 c4) (.int .i64 d'.fuse) (.bool d'.down)
              replace X := X.other3' (show xb ≠ yb by omega) (.slice A4 n4 c4) (.int .i64 d'.fuse) (.bool d'.down)
              replace L := L.other3' (show lb ≠ yb by omega) (.slice A4 n4 c4) (.int .i64 d'.fuse) (.bool d'.down)
              replace Wb := Wb.other3' (show wb ≠ yb by omega) (.slice A4 n4 c4) (.int .i64 d'.fuse) (.bool d'.down)
              replace YR := YR.other3' (show rb ≠ yb by omega) (.slice A4 n4 c4) (.int .i64 d'.fuse) (.bool d'.down)
              replace YD := YD.three (.slice A4 n4 c4) (.int .i64 d'.fuse) (.bool d'.down)
              replace b := below_three b hy1 (.slice A4 n4 c4) (.int .i64 d'.fuse) (.bool d'.down)
              clear a0 a1 a2 ac
              refine hK.out _ _ (by exact ⟨X.at 0 rfl, X.at 1 rfl, X.at 2 rfl, cell_below C2.out b hbw⟩) (fun hHeld2 => ?_)
              clear hK hHeld1 K
              try simp only [Act.put, sA, sB, sC]
              generalize ((wk.setCell ⟨yb, 0, none⟩ (.slice A4 n4 c4)).setCell ⟨yb, 1, none⟩ (.int .i64 d'.fuse)).setCell ⟨yb, 2, none⟩ (.bool d'.down) = wl at *
              refine wpAnyH_ready (rs := [12]) (by kernel_rfl) (by simp) (AllReadyH.cons (o := ⟨none, _, _, _, _, _⟩) rfl (fun K hK => ?_) AllReadyH.nil)
              have a0 := YR.at 0 rfl
              have a1 := YR.at 1 rfl
              have a2 := YR.at 2 rfl
              have ac := YR.cold
              go_simp
              replace R4 := R4.box3 YR (.int .i64 r'.seq) (.int .i64 r'.gen) (.string (strB r'.note))
              replace X := X.other3' (show xb ≠ rb by omega) (.int .i64 r'.seq) (.int .i64 r'.gen) (.string (strB r'.note))
              replace L := L.other3' (show lb ≠ rb by omega) (.int .i64 r'.seq) (.int .i64 r'.gen) (.string (strB r'.note))
              replace Wb := Wb.other3' (show wb ≠ rb by omega) (.int .i64 r'.seq) (.int .i64 r'.gen) (.string (strB r'.note))
              replace YD := YD.other3' (show yb ≠ rb by omega) (.int .i64 r'.seq) (.int .i64 r'.gen) (.string (strB r'.note))
              replace YR := YR.three (.int .i64 r'.seq) (.int .i64 r'.gen) (.string (strB r'.note))
              replace b := below_three b hy2 (.int .i64 r'.seq) (.int .i64 r'.gen) (.string (strB r'.note))
              clear a0 a1 a2 ac
              refine hK.out _ _ (by exact ⟨X.at 0 rfl, X.at 1 rfl, X.at 2 rfl, cell_below C2.out b hbw⟩) (fun hHeld3 => ?_)
              clear hK hHeld2 K
              try simp only [Act.put, sA, sB, sC]
              generalize ((wl.setCell ⟨rb, 0, none⟩ (.int .i64 r'.seq)).setCell ⟨rb, 1, none⟩ (.int .i64 r'.gen)).setCell ⟨rb, 2, none⟩ (.string (strB r'.note)) = wn at *
              refine tk 13 11 rfl hHeld3 ?_
              refine wpAnyH_done (by kernel_rfl) ?_ _
              clear hHeld3
              go_wp2_with fail
              go_meet
              exact ⟨d', r', er', A4, n4, c4, rfl, HC.out, YD, YR, R4, ⟨_, _, _, X⟩, L, Wb, b⟩
          case rest =>
            clear X L R R3 Wb b YD YR HWR
            obtain ⟨dk, r', er', A4, n4, c4, rfl, ⟨hlen, hf1, hf2, hcase⟩, YD, YR, R4, ⟨v0, v1, v2, X⟩, L, Wb, b⟩ := hcut
            go_upto_region 20 with fail
            go_step
            iterate 6 (first | go_values | go_skip | go_guarded | go_step | go_upon | go_back)
            go_cut [7] (Told W xb lb wb yb rb x er' k)
            case first =>
              rcases hcase with ⟨rfl, hr, hdn, hil'⟩ | ⟨rfl, hdn, hil'⟩
              · skip
                obtain ⟨lq, φq, oq⟩ := dk
                obtain ⟨gn, hgn⟩ : ∃ gn, x.gen + (if bN then 1 else 0) = gn := ⟨_, rfl⟩
                rw [hgn] at hr hil'
                have hg2 : x.gen ≤ gn ∧ gn ≤ x.gen + 1 ∧ (bN = true ↔ gn = x.gen + 1) := by rw [← hgn]; cases bN <;> simp <;> omega <;> omega
                have hrs : r'.seq = x.seq + 1 := by rw [hr]
                have hrg : r'.gen = gn := by rw [hr]
                rw [← hr] at hil'
                simp only at hdn hil' hlen hf1 hf2
                subst hdn
                have q1 : (r'.gen == x.gen + 1) = bN := by rw [Bool.eq_iff_iff, beq_iff_eq, hrg]; exact hg2.2.2.symm
                have q2 : ¬ r'.gen < x.gen := by omega
                have q3 : (r'.seq == x.seq + 1) = true := by rw [hrs]; simp
                have q4 : (bN != bN) = false := by simp
                have HT : Hid ((lq.length = 3 ∧ -1 ≤ φq ∧ φq ≤ 254) ∧ J.IsLast lq r' ∧ (r'.seq ≤ (k : Int) + 1 + 1 ∧ r'.gen ≤ (k : Int) + 1 + 1)) := Lib.hid ⟨⟨by rw [hlen]; exact HL3.out, hf1, by omega⟩, hil', by omega, by omega⟩
                clear hr hil' hlen hf1 hf2 hrs hrg hg2 hgn
                have u0 := YR.at 0 rfl
                have u1 := YR.at 1 rfl
                have u2 := YR.at 2 rfl
                have h0 := Wb.at 0 rfl
                have h1 := Wb.at 1 rfl
                have h2 := Wb.at 2 rfl
                have d0 := cell_below C0.out b hbw
                go_upto_region 23 with fail
                clear u0 u1 u2 h0 h1 h2 d0
                replace X := X.drew
                replace L := L.drew
                replace Wb := Wb.drew
                replace YD := YD.drew
                replace YR := YR.drew
                replace R4 := R4.drew
                replace b := b.drew
                have u0 := YR.at 0 rfl
                have u1 := YR.at 1 rfl
                have u2 := YR.at 2 rfl
                have h0 := Wb.at 0 rfl
                have h1 := Wb.at 1 rfl
                have h2 := Wb.at 2 rfl
                have d0 := cell_below C0.out b hbw
                refine wp_region_held_drew (S := (fun w' => w'.cell? ⟨bw, ow + k * 3, none⟩ = some (.bool bN) ∧ w'.cell? ⟨rb, 0, none⟩ = some (.int .i64 r'.seq) ∧ w'.cell? ⟨rb, 1, none⟩ = some (.int .i64 r'.gen) ∧ w'.cell? ⟨wb, 0, none⟩ = some (.int .i64 x.seq) ∧ w'.cell? ⟨wb, 1, none⟩ = some (.int .i64 x.gen))) (by kernel_rfl) (by exact ⟨d0, u0, u1, h0, h1⟩) (fun hHeld0 => ?_)
                refine tk 0 94 rfl hHeld0 ?_
                refine tk 1 95 rfl hHeld0 ?_
                refine tk 2 96 rfl hHeld0 ?_
                refine tk 3 97 rfl hHeld0 ?_
                refine tk 4 98 rfl hHeld0 ?_
                refine tk 5 99 rfl hHeld0 ?_
                refine tk 6 100 rfl hHeld0 ?_
                refine tk 7 101 rfl hHeld0 ?_
                refine tk 8 102 rfl hHeld0 ?_
                refine tk 9 103 rfl hHeld0 ?_
                refine tk 10 104 rfl hHeld0 ?_
                refine tk 11 105 rfl hHeld0 ?_
                refine tk 12 106 rfl hHeld0 ?_
                refine tk 13 107 rfl hHeld0 ?_
                refine tk 14 108 rfl hHeld0 ?_
                refine tk 15 109 rfl hHeld0 ?_
                refine tk 16 110 rfl hHeld0 ?_
                refine tk 17 111 rfl hHeld0 ?_
                refine tk 18 112 rfl hHeld0 ?_
                refine tk 19 113 rfl hHeld0 ?_
                refine tk 20 114 rfl hHeld0 ?_
                refine tk 21 115 rfl hHeld0 ?_
                refine tk 22 116 rfl hHeld0 ?_
                refine tk 23 117 rfl hHeld0 ?_
                refine tk 24 118 rfl hHeld0 ?_
                refine tk 25 119 rfl hHeld0 ?_
                refine tk 26 120 rfl hHeld0 ?_
                refine wpAnyH_done (by kernel_rfl) ?_ _
                generalize wc.drew = wz at *
                have g0 := L.at 0 rfl
                have g1 := L.at 1 rfl
                have g2 := L.at 2 rfl
                have gc := L.cold
                have R5 := R4.box3 L (.int .i64 r'.seq) (.int .i64 r'.gen) (.string (strB r'.note))
                have Xq := X.other3' (show xb ≠ lb by omega) (.int .i64 r'.seq) (.int .i64 r'.gen) (.string (strB r'.note))
                have Wbq := Wb.other3' (show wb ≠ lb by omega) (.int .i64 r'.seq) (.int .i64 r'.gen) (.string (strB r'.note))
                have YDq := YD.other3' (show yb ≠ lb by omega) (.int .i64 r'.seq) (.int .i64 r'.gen) (.string (strB r'.note))
                have YRq := YR.other3' (show rb ≠ lb by omega) (.int .i64 r'.seq) (.int .i64 r'.gen) (.string (strB r'.note))
                have Lq := L.three (.int .i64 r'.seq) (.int .i64 r'.gen) (.string (strB r'.note))
                have bq := below_three b hwl (.int .i64 r'.seq) (.int .i64 r'.gen) (.string (strB r'.note))
                go_wp2_with fail
                go_meet
                exact ⟨lq, φq, r', A4, n4, c4, rfl, Or.inl rfl, HT.out.1, HT.out.2.1, HT.out.2.2, YDq, ⟨_, _, _, YRq⟩, R5, ⟨_, _, _, Xq⟩, Lq, Wbq, bq⟩
              · skip
                obtain ⟨lq, φq, oq⟩ := dk
                simp only at hdn hil' hlen hf1 hf2
                subst hdn
                have hrd : K.right ⟨lq, φq, true⟩ := ⟨by show lq.length ≤ 64; have := HL3.out; omega, hf1⟩
                have EWK : Hid (K.wake ⟨lq, φq, true⟩ = (⟨lq, -1, false⟩, 0)) := Lib.hid (K.wake_right hrd)
                have HT : Hid ((lq.length = 3 ∧ -1 ≤ (-1 : Int) ∧ (-1 : Int) ≤ 254) ∧ J.IsLast lq x ∧ (x.seq ≤ (k : Int) + 1 + 1 ∧ x.gen ≤ (k : Int) + 1 + 1)) := Lib.hid ⟨⟨by rw [hlen]; exact HL3.out, by omega, by omega⟩, hil', by omega, by omega⟩
                clear hil' hlen hf1 hf2 hrd
                have y0 := YD.at 0 rfl
                have y1 := YD.at 1 rfl
                have y2 := YD.at 2 rfl
                go_wp2_with fail
                clear y0 y1 y2
                refine (rkwake_at' (x := ⟨lq, φq, true⟩) A4 n4 c4 EWK.out _ R4).mono ?_
                rintro e wm ⟨⟨A9, n9, c9, rfl, R8, fr⟩, hb⟩
                clear fr
                (try dsimp only at R8)
                (try dsimp only)
                replace X := X.belowH hb
                replace L := L.belowH hb
                replace Wb := Wb.belowH hb
                replace YD := YD.belowH hb
                replace YR := YR.belowH hb
                replace b := b.trans (hb.mono b.size)
                clear hb
                clear R4
                have a0 := YD.at 0 rfl
                have a1 := YD.at 1 rfl
                have a2 := YD.at 2 rfl
                have ac := YD.cold
                have R9 := R8.box3 YD (.slice A9 n9 c9) (.int .i64 (-1)) (.bool false)
                have Xq := X.other3' (show xb ≠ yb by omega) (.slice A9 n9 c9) (.int .i64 (-1)) (.bool false)
                have Lq := L.other3' (show lb ≠ yb by omega) (.slice A9 n9 c9) (.int .i64 (-1)) (.bool false)
                have Wbq := Wb.other3' (show wb ≠ yb by omega) (.slice A9 n9 c9) (.int .i64 (-1)) (.bool false)
                have YRq := YR.other3' (show rb ≠ yb by omega) (.slice A9 n9 c9) (.int .i64 (-1)) (.bool false)
                have YDq := YD.three (.slice A9 n9 c9) (.int .i64 (-1)) (.bool false)
                have bq := below_three b hy1 (.slice A9 n9 c9) (.int .i64 (-1)) (.bool false)
                go_wp2_with fail
                go_meet
                exact ⟨lq, -1, x, A9, n9, c9, rfl, Or.inr ⟨rfl, rfl⟩, HT.out.1, HT.out.2.1, HT.out.2.2, YDq, ⟨_, _, _, YRq⟩, R9, ⟨_, _, _, Xq⟩, Lq, Wbq, bq⟩
            case rest =>
              clear X L R4 Wb b YD YR hcase hlen hf1 hf2
              obtain ⟨lq, φq, zq, A4', n4', c4', rfl, her, ⟨hl3', hp1, hp2⟩, hil', hbd, YD, ⟨t0, t1, t2, YR⟩, R4, ⟨v3, v4, v5, X⟩, L, Wb, b⟩ := hcut
              have HIQ : Hid (J.IsLast lq zq) := Lib.hid hil'
              have HLQ : Hid (lq.length = 3) := Lib.hid hl3'
              have HLN := HLQ
              have HBD := Lib.hid hbd
              have qx := fun w => (eq_rc zq zq w).trans (by rw [rcB_self])
              have hrd : K.right ⟨lq, φq, false⟩ := ⟨by show lq.length ≤ 64; omega, hp1⟩
              have EAM : Hid (K.arm ⟨lq, φq, false⟩ (-1) = (⟨lq, -1, false⟩, 0)) := Lib.hid (arm_is hrd rfl (by omega))
              have ELA : Hid (J.last ⟨lq, -1, false⟩ = (zq, 0)) := Lib.hid (J.last_of (d := ⟨lq, -1, false⟩) ⟨by show lq.length ≤ 64; have := HLQ.out; omega, by show (-1 : Int) ≤ -1; omega⟩ rfl HIQ.out)
              clear hrd hil' hl3' hbd
              rcases her with rfl | ⟨rfl, rfl⟩
              · skip
                have y0 := YD.at 0 rfl
                have y1 := YD.at 1 rfl
                have y2 := YD.at 2 rfl
                go_wp2_with fail
                clear y0 y1 y2
                refine (rkarm_at' (x := ⟨lq, φq, false⟩) A4' n4' c4' (-1) EAM.out _ R4 (by have h1 := R4.len; have h2 := HLN.out; simp only at h1; omega)).mono ?_
                rintro e taa ⟨⟨A5, n5, c5, rfl, R5, fr⟩, hb⟩
                clear fr
                (try dsimp only at R5)
                (try dsimp only)
                replace X := X.belowH hb
                replace L := L.belowH hb
                replace Wb := Wb.belowH hb
                replace YD := YD.belowH hb
                replace YR := YR.belowH hb
                replace b := b.trans (hb.mono b.size)
                clear hb
                clear R4
                have a0 := YD.at 0 rfl
                have a1 := YD.at 1 rfl
                have a2 := YD.at 2 rfl
                have ac := YD.cold
                have R6 := R5.box3 YD (.slice A5 n5 c5) (.int .i64 (-1)) (.bool false)
                have Xq := X.other3' (show xb ≠ yb by omega) (.slice A5 n5 c5) (.int .i64 (-1)) (.bool false)
                have Lq := L.other3' (show lb ≠ yb by omega) (.slice A5 n5 c5) (.int .i64 (-1)) (.bool false)
                have Wbq := Wb.other3' (show wb ≠ yb by omega) (.slice A5 n5 c5) (.int .i64 (-1)) (.bool false)
                have YRq := YR.other3' (show rb ≠ yb by omega) (.slice A5 n5 c5) (.int .i64 (-1)) (.bool false)
                have YDq := YD.three (.slice A5 n5 c5) (.int .i64 (-1)) (.bool false)
                have bq := below_three b hy1 (.slice A5 n5 c5) (.int .i64 (-1)) (.bool false)
                clear R5
                go_wp2_with fail
                clear X L Wb YR YD b a0 a1 a2 ac 
                generalize ((taa.setCell ⟨yb, 0, none⟩ (.slice A5 n5 c5)).setCell ⟨yb, 1, none⟩ (.int .i64 (-1))).setCell ⟨yb, 2, none⟩ (.bool false) = tab at *
                have X := Xq
                have L := Lq
                have Wb := Wbq
                have YR := YRq
                have YD := YDq
                have b := bq
                clear Xq Lq Wbq YRq YDq bq
                refine (jlast_at (d := ⟨lq, -1, false⟩) A5 n5 c5 ELA.out _ R6 (by have h1 := R6.len; have h2 := HLQ.out; simp only at h1; omega)).mono ?_
                rintro e tac ⟨rfl, hb⟩
                simp only [rv]
                replace X := X.belowH hb
                replace L := L.belowH hb
                replace Wb := Wb.belowH hb
                replace YD := YD.belowH hb
                replace YR := YR.belowH hb
                replace R6 := R6.belowH hb
                replace b := b.trans (hb.mono b.size)
                clear hb
                have Zb := Box.new tac #[.int .i64 zq.seq, .int .i64 zq.gen, .string (strB zq.note)] 23
                have hlX := X.lt
                replace X := X.alloc (.cells #[.int .i64 zq.seq, .int .i64 zq.gen, .string (strB zq.note)] 23)
                have hlL := L.lt
                replace L := L.alloc (.cells #[.int .i64 zq.seq, .int .i64 zq.gen, .string (strB zq.note)] 23)
                have hlWb := Wb.lt
                replace Wb := Wb.alloc (.cells #[.int .i64 zq.seq, .int .i64 zq.gen, .string (strB zq.note)] 23)
                have hlYD := YD.lt
                replace YD := YD.alloc (.cells #[.int .i64 zq.seq, .int .i64 zq.gen, .string (strB zq.note)] 23)
                have hlYR := YR.lt
                replace YR := YR.alloc (.cells #[.int .i64 zq.seq, .int .i64 zq.gen, .string (strB zq.note)] 23)
                replace R6 := R6.alloc (.cells #[.int .i64 zq.seq, .int .i64 zq.gen, .string (strB zq.note)] 23)
                replace b := b.alloc b.size (.cells #[.int .i64 zq.seq, .int .i64 zq.gen, .string (strB zq.note)] 23)
                have z0 := Zb.at 0 rfl
                have z1 := Zb.at 1 rfl
                have z2 := Zb.at 2 rfl
                have g0 := L.at 0 rfl
                have g1 := L.at 1 rfl
                have g2 := L.at 2 rfl
                have h0 := Wb.at 0 rfl
                have h1 := Wb.at 1 rfl
                have h2 := Wb.at 2 rfl
                have y0 := YD.at 0 rfl
                have y1 := YD.at 1 rfl
                have y2 := YD.at 2 rfl
                have x0 := X.at 0 rfl
                have x1 := X.at 1 rfl
                have x2 := X.at 2 rfl
                go_upto_region 32 with fail
                generalize tac.alloc (.cells #[.int .i64 zq.seq, .int .i64 zq.gen, .string (strB zq.note)] 23) = tad at *
                generalize tac.heap.size = zb at *
                have xc := X.cold
                have gc := L.cold
                go_region
                have R7 := ((R6.box3 X (.slice A5 n5 c5) (.int .i64 (-1)) (.bool false)).box3 (L.other3' (show lb ≠ xb by omega) (.slice A5 n5 c5) (.int .i64 (-1)) (.bool false)) (.int .i64 zq.seq) (.int .i64 zq.gen) (.string (strB zq.note))).drew
                have X7 := ((X.three (.slice A5 n5 c5) (.int .i64 (-1)) (.bool false)).other3' (show xb ≠ lb by omega) (.int .i64 zq.seq) (.int .i64 zq.gen) (.string (strB zq.note))).drew
                have L7 := ((L.other3' (show lb ≠ xb by omega) (.slice A5 n5 c5) (.int .i64 (-1)) (.bool false)).three (.int .i64 zq.seq) (.int .i64 zq.gen) (.string (strB zq.note))).drew
                have b7 := (below_three (below_three b hwx (.slice A5 n5 c5) (.int .i64 (-1)) (.bool false)) hwl (.int .i64 zq.seq) (.int .i64 zq.gen) (.string (strB zq.note))).drew
                go_wp2
                go_roundw
                case rel => exact ⟨k + 1, lq, zq, A5, n5, c5, by omega, by go_num, HLQ.out, HIQ.out, by push_cast; exact HBD.out, X7, R7, L7, b7⟩
                case measure => simp [intOf]; omega
              · skip
                have y0 := YD.at 0 rfl
                have y1 := YD.at 1 rfl
                have y2 := YD.at 2 rfl
                go_wp2_with fail
                clear y0 y1 y2
                refine (rkarm_at' (x := ⟨lq, φq, false⟩) A4' n4' c4' (-1) EAM.out _ R4 (by have h1 := R4.len; have h2 := HLN.out; simp only at h1; omega)).mono ?_
                rintro e tba ⟨⟨A5, n5, c5, rfl, R5, fr⟩, hb⟩
                clear fr
                (try dsimp only at R5)
                (try dsimp only)
                replace X := X.belowH hb
                replace L := L.belowH hb
                replace Wb := Wb.belowH hb
                replace YD := YD.belowH hb
                replace YR := YR.belowH hb
                replace b := b.trans (hb.mono b.size)
                clear hb
                clear R4
                have a0 := YD.at 0 rfl
                have a1 := YD.at 1 rfl
                have a2 := YD.at 2 rfl
                have ac := YD.cold
                have R6 := R5.box3 YD (.slice A5 n5 c5) (.int .i64 (-1)) (.bool false)
                have Xq := X.other3' (show xb ≠ yb by omega) (.slice A5 n5 c5) (.int .i64 (-1)) (.bool false)
                have Lq := L.other3' (show lb ≠ yb by omega) (.slice A5 n5 c5) (.int .i64 (-1)) (.bool false)
                have Wbq := Wb.other3' (show wb ≠ yb by omega) (.slice A5 n5 c5) (.int .i64 (-1)) (.bool false)
                have YRq := YR.other3' (show rb ≠ yb by omega) (.slice A5 n5 c5) (.int .i64 (-1)) (.bool false)
                have YDq := YD.three (.slice A5 n5 c5) (.int .i64 (-1)) (.bool false)
                have bq := below_three b hy1 (.slice A5 n5 c5) (.int .i64 (-1)) (.bool false)
                clear R5
                go_wp2_with fail
                clear X L Wb YR YD b a0 a1 a2 ac 
                generalize ((tba.setCell ⟨yb, 0, none⟩ (.slice A5 n5 c5)).setCell ⟨yb, 1, none⟩ (.int .i64 (-1))).setCell ⟨yb, 2, none⟩ (.bool false) = tbb at *
                have X := Xq
                have L := Lq
                have Wb := Wbq
                have YR := YRq
                have YD := YDq
                have b := bq
                clear Xq Lq Wbq YRq YDq bq
                refine (jlast_at (d := ⟨lq, -1, false⟩) A5 n5 c5 ELA.out _ R6 (by have h1 := R6.len; have h2 := HLQ.out; simp only at h1; omega)).mono ?_
                rintro e tbc ⟨rfl, hb⟩
                simp only [rv]
                replace X := X.belowH hb
                replace L := L.belowH hb
                replace Wb := Wb.belowH hb
                replace YD := YD.belowH hb
                replace YR := YR.belowH hb
                replace R6 := R6.belowH hb
                replace b := b.trans (hb.mono b.size)
                clear hb
                have Zb := Box.new tbc #[.int .i64 zq.seq, .int .i64 zq.gen, .string (strB zq.note)] 23
                have hlX := X.lt
                replace X := X.alloc (.cells #[.int .i64 zq.seq, .int .i64 zq.gen, .string (strB zq.note)] 23)
                have hlL := L.lt
                replace L := L.alloc (.cells #[.int .i64 zq.seq, .int .i64 zq.gen, .string (strB zq.note)] 23)
                have hlWb := Wb.lt
                replace Wb := Wb.alloc (.cells #[.int .i64 zq.seq, .int .i64 zq.gen, .string (strB zq.note)] 23)
                have hlYD := YD.lt
                replace YD := YD.alloc (.cells #[.int .i64 zq.seq, .int .i64 zq.gen, .string (strB zq.note)] 23)
                have hlYR := YR.lt
                replace YR := YR.alloc (.cells #[.int .i64 zq.seq, .int .i64 zq.gen, .string (strB zq.note)] 23)
                replace R6 := R6.alloc (.cells #[.int .i64 zq.seq, .int .i64 zq.gen, .string (strB zq.note)] 23)
                replace b := b.alloc b.size (.cells #[.int .i64 zq.seq, .int .i64 zq.gen, .string (strB zq.note)] 23)
                have z0 := Zb.at 0 rfl
                have z1 := Zb.at 1 rfl
                have z2 := Zb.at 2 rfl
                have g0 := L.at 0 rfl
                have g1 := L.at 1 rfl
                have g2 := L.at 2 rfl
                have h0 := Wb.at 0 rfl
                have h1 := Wb.at 1 rfl
                have h2 := Wb.at 2 rfl
                have y0 := YD.at 0 rfl
                have y1 := YD.at 1 rfl
                have y2 := YD.at 2 rfl
                have x0 := X.at 0 rfl
                have x1 := X.at 1 rfl
                have x2 := X.at 2 rfl
                go_upto_region 32 with fail
                generalize tbc.alloc (.cells #[.int .i64 zq.seq, .int .i64 zq.gen, .string (strB zq.note)] 23) = tbd at *
                generalize tbc.heap.size = zb at *
                have xc := X.cold
                have gc := L.cold
                go_region
                have R7 := ((R6.box3 X (.slice A5 n5 c5) (.int .i64 (-1)) (.bool false)).box3 (L.other3' (show lb ≠ xb by omega) (.slice A5 n5 c5) (.int .i64 (-1)) (.bool false)) (.int .i64 zq.seq) (.int .i64 zq.gen) (.string (strB zq.note))).drew
                have X7 := ((X.three (.slice A5 n5 c5) (.int .i64 (-1)) (.bool false)).other3' (show xb ≠ lb by omega) (.int .i64 zq.seq) (.int .i64 zq.gen) (.string (strB zq.note))).drew
                have L7 := ((L.other3' (show lb ≠ xb by omega) (.slice A5 n5 c5) (.int .i64 (-1)) (.bool false)).three (.int .i64 zq.seq) (.int .i64 zq.gen) (.string (strB zq.note))).drew
                have b7 := (below_three (below_three b hwx (.slice A5 n5 c5) (.int .i64 (-1)) (.bool false)) hwl (.int .i64 zq.seq) (.int .i64 zq.gen) (.string (strB zq.note))).drew
                go_wp2
                go_roundw
                case rel => exact ⟨k + 1, lq, zq, A5, n5, c5, by omega, by go_num, HLQ.out, HIQ.out, by push_cast; exact HBD.out, X7, R7, L7, b7⟩
                case measure => simp [intOf]; omega
    · have hkk : ¬ (k : Int) < (n : Int) := by omega
      go_wp2
      go_ret
      exact ⟨rfl, b⟩
end Go.Proofs.Ytipccalbhlhljaa

