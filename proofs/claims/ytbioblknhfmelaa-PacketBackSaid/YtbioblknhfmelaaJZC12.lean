/- ZC12 (merged). -/
import Derived.Test.YtbioblknhfmelaaJRD
namespace Go.Proofs.Ytbioblknhfmelaa
set_option linter.unusedVariables false
set_option linter.unusedSimpArgs false
open Go.RowKit
theorem Rd.apartR {w w' : World} {size n rb : Nat} {A : Option Addr} {xs : List Value} (h : Rd w w.heap.size size A n xs) (ha : Apart A rb) (hg : w.grownBy w' (some rb)) : Rd w' w'.heap.size size A n xs := by
  refine ⟨h.1, fun hn => ?_⟩
  obtain ⟨b, o, e, hb, hc⟩ := h.2 hn
  refine ⟨b, o, e, Nat.lt_of_lt_of_le hb hg.size, fun j hj => (World.cell?_of_block (a := ⟨b, o + j, none⟩) (hg.block b hb fun hne => ha (by rw [e]; injection hne with hne; show some b = some rb; rw [hne]))).trans (hc j hj)⟩
theorem Rd.apartS {w : World} {size n bb o : Nat} {A : Option Addr} {xs : List Value} (h : Rd w w.heap.size size A n xs) (ha : Apart A bb) (v : Value) : Rd (w.setCell ⟨bb, o, none⟩ v) (w.setCell ⟨bb, o, none⟩ v).heap.size size A n xs :=
  h.apartR ha (grown_set1 w bb o v)
theorem Rd.allocX {w : World} {size n : Nat} {A : Option Addr} {xs : List Value} (h : Rd w w.heap.size size A n xs) (o : Obj) : Rd (w.alloc o) (w.alloc o).heap.size size A n xs := h.belowH ((Below.refl _ _).alloc (Nat.le_refl _) o)
theorem Rdr.setO {w : World} {rb n c bb o : Nat} {b : List UInt8} {A : Option Addr} {σ : Nat × Int} (h : Rdr w rb b A n c σ) (hb : rb < bb) (v : Value) : Rdr (w.setCell ⟨bb, o, none⟩ v) rb b A n c σ :=
  ⟨h.box.other (by omega) v, h.rd.grown (grown_set1 w bb o v) (Nat.le_of_lt h.box.lt) (fun k hk => by injection hk with hk; omega), h.le⟩
theorem apart_rng {A : Option Addr} {lo hi bb : Nat} (h : ∀ g, blk A = some g → lo ≤ g ∧ g < hi) (hb : bb < lo ∨ hi ≤ bb) : Apart A bb := fun e => by have := h bb e; omega
/-- between two lists of records -/
structure PkW (w : World) (rb : Nat) (b : List UInt8) (A : Option Addr) (n c p0 l0 id fl : Nat) (A1 : Option Addr) (k1 c1 : Nat) (Q : List Qst) (A2 : Option Addr) (n2 c2 : Nat) (x2 : List Rrc) (A3 : Option Addr) (n3 c3 : Nat) (x3 : List Rrc) (A4 : Option Addr) (n4 c4 : Nat) (x4 : List Rrc) (τ : Nat × Int) (wr : World) : Prop where
  L : Box wr l0 51 #[.slice A2 n2 c2, .slice A3 n3 c3, .slice A4 n4 c4]
  r2 : Rd wr wr.heap.size 5 A2 n2 (RC x2)
  r3 : Rd wr wr.heap.size 5 A3 n3 (RC x3)
  r4 : Rd wr wr.heap.size 5 A4 n4 (RC x4)
  q2 : ∀ g, blk A2 = some g → l0 < g
  q3 : ∀ g, blk A3 = some g → l0 < g
  q4 : ∀ g, blk A4 = some g → l0 < g
  v : n2 ≤ 65535 ∧ n3 ≤ 65535 ∧ n4 ≤ 65535
  P : Box wr p0 25 #[.int .i64 ((id : Nat) : Int), .int .i64 ((fl : Nat) : Int), .slice A1 k1 c1, .slice none 0 0, .slice none 0 0, .slice none 0 0]
  Y : Box wr w.heap.size 25 #[.int .i64 0, .int .i64 0, .slice none 0 0, .slice none 0 0, .slice none 0 0, .slice none 0 0]
  R : Rd wr wr.heap.size 3 A1 k1 (QC Q)
  g : w.grownBy wr (some rb)
  h : Rdr wr rb b A n c τ
set_option maxHeartbeats 8000000 in
set_option maxRecDepth 20000 in
theorem ppacket_any (b : List UInt8) (σ : Nat × Int) (rb : Nat) (A : Option Addr) (n c : Nat) (w : World) (h : Rdr w rb b A n c σ) (hn : n ≤ 1000000) (hc : n ≤ c ∧ c ≤ 9223372036854775807) :
    Calls Try.prog 36 #[.pointer (some ⟨rb, 0, none⟩)] w fun e w' => (∃ u : Pv, u.x = (Pk.packS b σ).1 ∧ e = .returned (pval u) ∧ PRd w' u ∧ u.n1 ≤ 65535 ∧ u.n2 ≤ 65535 ∧ u.n3 ≤ 65535 ∧ u.n4 ≤ 65535 ∧ (∀ g, blk u.A1 = some g → w.heap.size ≤ g) ∧ (∀ g, blk u.A2 = some g → w.heap.size ≤ g) ∧ (∀ g, blk u.A3 = some g → w.heap.size ≤ g) ∧ (∀ g, blk u.A4 = some g → w.heap.size ≤ g)) ∧ w.grownBy w' (some rb) ∧ Rdr w' rb b A n c (Pk.packS b σ).2 := by
  have HN := Lib.hid hn
  have HC := Lib.hid hc
  have hrb := h.box.lt
  obtain ⟨⟨id, τ1⟩, e1⟩ : ∃ z, Pk.numS b 2 σ = z := ⟨_, rfl⟩
  have u1 : id ≤ 65535 := by have := numS_lt2 (b := b) (σ := σ); rw [e1] at this; exact this
  obtain ⟨⟨fl, τ2⟩, e2⟩ : ∃ z, Pk.numS b 2 τ1 = z := ⟨_, rfl⟩
  have u2 : fl ≤ 65535 := by have := numS_lt2 (b := b) (σ := τ1); rw [e2] at this; exact this
  obtain ⟨⟨q, τ3⟩, e3⟩ : ∃ z, Pk.numS b 2 τ2 = z := ⟨_, rfl⟩
  have u3 : q ≤ 65535 := by have := numS_lt2 (b := b) (σ := τ2); rw [e3] at this; exact this
  obtain ⟨⟨a1, τ4⟩, e4⟩ : ∃ z, Pk.numS b 2 τ3 = z := ⟨_, rfl⟩
  have u4 : a1 ≤ 65535 := by have := numS_lt2 (b := b) (σ := τ3); rw [e4] at this; exact this
  obtain ⟨⟨a2, τ5⟩, e5⟩ : ∃ z, Pk.numS b 2 τ4 = z := ⟨_, rfl⟩
  have u5 : a2 ≤ 65535 := by have := numS_lt2 (b := b) (σ := τ4); rw [e5] at this; exact this
  obtain ⟨⟨a3, τ6⟩, e6⟩ : ∃ z, Pk.numS b 2 τ5 = z := ⟨_, rfl⟩
  have u6 : a3 ≤ 65535 := by have := numS_lt2 (b := b) (σ := τ5); rw [e6] at this; exact this
  obtain ⟨⟨Q, τ7⟩, e7⟩ : ∃ z, Pk.sevS (Pk.qstS b) q τ6 = z := ⟨_, rfl⟩
  obtain ⟨⟨L2, τ8⟩, e8⟩ : ∃ z, Pk.sevS (Pk.recS b) a1 τ7 = z := ⟨_, rfl⟩
  obtain ⟨⟨L3, τ9⟩, e9⟩ : ∃ z, Pk.sevS (Pk.recS b) a2 τ8 = z := ⟨_, rfl⟩
  obtain ⟨⟨L4, τ10⟩, e10⟩ : ∃ z, Pk.sevS (Pk.recS b) a3 τ9 = z := ⟨_, rfl⟩
  have ES : Hid (Pk.packS b σ = (⟨(id : Nat), (fl : Nat), Q, L2, L3, L4⟩, τ10)) := Lib.hid (by unfold Pk.packS Pk.pack4; simp only [e1, e2, e3, e4, e5, e6, e7, e8, e9, e10])
  rw [ES.out]
  have E1 := Lib.hid e1
  clear e1
  have E2 := Lib.hid e2
  clear e2
  have E3 := Lib.hid e3
  clear e3
  have E4 := Lib.hid e4
  clear e4
  have E5 := Lib.hid e5
  clear e5
  have E6 := Lib.hid e6
  clear e6
  have E7 := Lib.hid e7
  clear e7
  have E8 := Lib.hid e8
  clear e8
  have E9 := Lib.hid e9
  clear e9
  have E10 := Lib.hid e10
  clear e10
  have U1 := Lib.hid u1
  clear u1
  have U2 := Lib.hid u2
  clear u2
  have U3 := Lib.hid u3
  clear u3
  have U4 := Lib.hid u4
  clear u4
  have U5 := Lib.hid u5
  clear u5
  have U6 := Lib.hid u6
  clear u6
  have Y0 := Box.new w #[.int .i64 0, .int .i64 0, .slice none 0 0, .slice none 0 0, .slice none 0 0, .slice none 0 0] 25
  have h1 := h.alloc (.cells #[.int .i64 0, .int .i64 0, .slice none 0 0, .slice none 0 0, .slice none 0 0, .slice none 0 0] 25)
  have g1 : w.grownBy (w.alloc (.cells #[.int .i64 0, .int .i64 0, .slice none 0 0, .slice none 0 0, .slice none 0 0, .slice none 0 0] 25)) (some rb) := World.grownBy_alloc w _ _
  clear h hn hc
  go_enter Try.func36, Try.ntmps36
  go_wp2_with fail
  generalize w.alloc (.cells #[.int .i64 0, .int .i64 0, .slice none 0 0, .slice none 0 0, .slice none 0 0, .slice none 0 0] 25) = w1 at *
  have n0 : w.heap.size ≠ rb := by omega
  have C := pnum2_any b σ rb A n c w1 h1 HN.out HC.out
  simp only [E1.out] at C
  refine C.mono ?_
  clear C
  rintro e w2 ⟨rfl, gg, h2⟩
  replace Y0 := Y0.grownR gg n0
  have g2 := g1.trans gg
  clear gg h1 g1
  go_wp2_with fail
  have C := pnum2_any b τ1 rb A n c w2 h2 HN.out HC.out
  simp only [E2.out] at C
  refine C.mono ?_
  clear C
  rintro e w3 ⟨rfl, gg, h3⟩
  replace Y0 := Y0.grownR gg n0
  have g3 := g2.trans gg
  clear gg h2 g2
  have y3 := Y0.lt
  have P := Box.new w3 #[.int .i64 ((id : Nat) : Int), .int .i64 ((fl : Nat) : Int), .slice none 0 0, .slice none 0 0, .slice none 0 0, .slice none 0 0] 25
  have nP : w3.heap.size ≠ rb := by have := h3.box.lt; omega
  have h4 := h3.alloc (.cells #[.int .i64 ((id : Nat) : Int), .int .i64 ((fl : Nat) : Int), .slice none 0 0, .slice none 0 0, .slice none 0 0, .slice none 0 0] 25)
  have g4 := g3.trans (World.grownBy_alloc w3 (.cells #[.int .i64 ((id : Nat) : Int), .int .i64 ((fl : Nat) : Int), .slice none 0 0, .slice none 0 0, .slice none 0 0, .slice none 0 0] 25) (some rb))
  replace Y0 := Y0.alloc (.cells #[.int .i64 ((id : Nat) : Int), .int .i64 ((fl : Nat) : Int), .slice none 0 0, .slice none 0 0, .slice none 0 0, .slice none 0 0] 25)
  have s3 := g3.size
  obtain ⟨p0, hp0⟩ : ∃ x, w3.heap.size = x := ⟨_, rfl⟩
  clear g3 h3
  go_wp2_with fail
  generalize w3.alloc (.cells #[.int .i64 ((id : Nat) : Int), .int .i64 ((fl : Nat) : Int), .slice none 0 0, .slice none 0 0, .slice none 0 0, .slice none 0 0] 25) = w4 at *
  rw [hp0] at P nP s3 y3
  clear hp0
  have C := pnum2_any b τ2 rb A n c w4 h4 HN.out HC.out
  simp only [E3.out] at C
  refine C.mono ?_
  clear C
  rintro e w5 ⟨rfl, gg, h5⟩
  replace Y0 := Y0.grownR gg n0
  replace P := P.grownR gg nP
  have g5 := g4.trans gg
  clear gg h4 g4
  go_wp2_with fail
  have C := pnum2_any b τ3 rb A n c w5 h5 HN.out HC.out
  simp only [E4.out] at C
  refine C.mono ?_
  clear C
  rintro e w6 ⟨rfl, gg, h6⟩
  replace Y0 := Y0.grownR gg n0
  replace P := P.grownR gg nP
  have g6 := g5.trans gg
  clear gg h5 g5
  go_wp2_with fail
  have C := pnum2_any b τ4 rb A n c w6 h6 HN.out HC.out
  simp only [E5.out] at C
  refine C.mono ?_
  clear C
  rintro e w7 ⟨rfl, gg, h7⟩
  replace Y0 := Y0.grownR gg n0
  replace P := P.grownR gg nP
  have g7 := g6.trans gg
  clear gg h6 g6
  go_wp2_with fail
  have C := pnum2_any b τ5 rb A n c w7 h7 HN.out HC.out
  simp only [E6.out] at C
  refine C.mono ?_
  clear C
  rintro e w8 ⟨rfl, gg, h8⟩
  replace Y0 := Y0.grownR gg n0
  replace P := P.grownR gg nP
  have g8 := g7.trans gg
  clear gg h7 g7
  have M := Box.new w8 #[.int .i64 ((a1 : Nat) : Int), .int .i64 ((a2 : Nat) : Int), .int .i64 ((a3 : Nat) : Int)] 53
  have nM : w8.heap.size ≠ rb := by have := h8.box.lt; omega
  have mp : p0 < w8.heap.size := P.lt
  have h9 := h8.alloc (.cells #[.int .i64 ((a1 : Nat) : Int), .int .i64 ((a2 : Nat) : Int), .int .i64 ((a3 : Nat) : Int)] 53)
  have g9 := g8.trans (World.grownBy_alloc w8 (.cells #[.int .i64 ((a1 : Nat) : Int), .int .i64 ((a2 : Nat) : Int), .int .i64 ((a3 : Nat) : Int)] 53) (some rb))
  replace Y0 := Y0.alloc (.cells #[.int .i64 ((a1 : Nat) : Int), .int .i64 ((a2 : Nat) : Int), .int .i64 ((a3 : Nat) : Int)] 53)
  replace P := P.alloc (.cells #[.int .i64 ((a1 : Nat) : Int), .int .i64 ((a2 : Nat) : Int), .int .i64 ((a3 : Nat) : Int)] 53)
  obtain ⟨m0, hm0⟩ : ∃ x, w8.heap.size = x := ⟨_, rfl⟩
  clear g8 h8
  go_wp2_with fail
  generalize w8.alloc (.cells #[.int .i64 ((a1 : Nat) : Int), .int .i64 ((a2 : Nat) : Int), .int .i64 ((a3 : Nat) : Int)] 53) = w9 at *
  rw [hm0] at M nM mp
  have pl9 := P.lt
  clear hm0
  have CQ := psevQ_any b q τ6 rb A n c w9 h9 HN.out HC.out U3.out
  simp only [E7.out] at CQ
  refine CQ.mono ?_
  clear CQ
  rintro e w10 ⟨⟨A1, k1, c1, rfl, R1, B1, v1⟩, gg, h10⟩
  replace Y0 := Y0.grownR gg n0
  replace P := P.grownR gg nP
  have ml := M.lt
  replace M := M.grownR gg nM
  have g10 := g9.trans gg
  have V1 := Lib.hid v1
  clear v1 gg h9 g9
  have pf := P.cold
  have p2 := P.at 2 rfl
  go_upto_region 5 with fail
  have P2 := P.set 2 (.slice A1 k1 c1)
  have y2 := Y0.other (b' := p0) (o := 2) (by omega) (.slice A1 k1 c1)
  have M2 := M.other (b' := p0) (o := 2) (by omega) (.slice A1 k1 c1)
  have h11 := h10.setO (bb := p0) (o := 2) (by omega) (.slice A1 k1 c1)
  have g11 := grown_setN (b := p0) (o := 2) g10 (by omega) (.slice A1 k1 c1)
  have R1' := R1.apartS (bb := p0) (o := 2) (apart_rng B1 (by omega)) (.slice A1 k1 c1)
  have B1' : ∀ g, blk A1 = some g → w9.heap.size ≤ g ∧ g < (w10.setCell ⟨p0, 2, none⟩ (.slice A1 k1 c1)).heap.size := by simpa using B1
  clear P Y0 M h10 g10 R1 B1 pf p2
  generalize w10.setCell ⟨p0, 2, none⟩ (.slice A1 k1 c1) = w11 at *
  replace P2 : Box w11 p0 25 #[.int .i64 ((id : Nat) : Int), .int .i64 ((fl : Nat) : Int), .slice A1 k1 c1, .slice none 0 0, .slice none 0 0, .slice none 0 0] := P2
  go_upto_region 6 with fail
  have LB := Box.new w11 #[.slice none 0 0, .slice none 0 0, .slice none 0 0] 51
  have pl := P2.lt
  have ml2 := M2.lt
  have hg11 := g11.size
  have hrl := h11.box.lt
  replace P2 := P2.alloc (.cells #[.slice none 0 0, .slice none 0 0, .slice none 0 0] 51)
  replace y2 := y2.alloc (.cells #[.slice none 0 0, .slice none 0 0, .slice none 0 0] 51)
  replace M2 := M2.alloc (.cells #[.slice none 0 0, .slice none 0 0, .slice none 0 0] 51)
  have R1 := R1'.allocX (.cells #[.slice none 0 0, .slice none 0 0, .slice none 0 0] 51)
  have h12 := h11.alloc (.cells #[.slice none 0 0, .slice none 0 0, .slice none 0 0] 51)
  have g12 := g11.trans (World.grownBy_alloc w11 (.cells #[.slice none 0 0, .slice none 0 0, .slice none 0 0] 51) (some rb))
  have AR1 : Hid (Apart A1 rb ∧ Apart A1 w11.heap.size ∧ Apart A1 p0 ∧ Apart A1 w.heap.size ∧ ∀ g, blk A1 = some g → w.heap.size ≤ g) := Lib.hid ⟨apart_rng B1' (by omega), apart_rng B1' (by omega), apart_rng B1' (by omega), apart_rng B1' (by omega), fun g hg => by have := B1' g hg; omega⟩
  have nl : Hid (w.heap.size < w11.heap.size ∧ rb < w11.heap.size ∧ p0 ≠ w11.heap.size ∧ w.heap.size ≠ w11.heap.size ∧ p0 ≠ rb ∧ w11.heap.size ≠ rb ∧ p0 < w11.heap.size ∧ w.heap.size < p0) := Lib.hid (by omega)
  clear g11 h11 R1' B1' pl9 s3 mp ml
  generalize w11.alloc (.cells #[.slice none 0 0, .slice none 0 0, .slice none 0 0] 51) = w12 at *
  generalize w11.heap.size = l0 at *
  have j0 := M2.at 0 rfl
  have j1 := M2.at 1 rfl
  have j2 := M2.at 2 rfl
  have HS : PkW w rb b A n c p0 l0 id fl A1 k1 c1 Q none 0 0 [] none 0 0 [] none 0 0 [] τ7 w12 := ⟨LB, Rd.zero _ _ _ _, Rd.zero _ _ _ _, Rd.zero _ _ _ _, (fun _ h => by cases h), (fun _ h => by cases h), (fun _ h => by cases h), ⟨by omega, by omega, by omega⟩, P2, y2, R1, g12, h12⟩
  clear LB P2 y2 R1 g12 h12 pl ml2 hg11 M2 nM hrl
  go_wp2
  clear j0 j1 j2
  go_loopw [28] (fun i wr => ∃ (A2 : Option Addr) (n2 c2 : Nat) (x2 : List Rrc) (A3 : Option Addr) (n3 c3 : Nat) (x3 : List Rrc) (A4 : Option Addr) (n4 c4 : Nat) (x4 : List Rrc) (τ : Nat × Int), ((i = .int .i64 0 ∧ Hid (x2 = [] ∧ x3 = [] ∧ x4 = [] ∧ τ = τ7)) ∨ (i = .int .i64 1 ∧ Hid (x2 = L2 ∧ x3 = [] ∧ x4 = [] ∧ τ = τ8)) ∨ (i = .int .i64 2 ∧ Hid (x2 = L2 ∧ x3 = L3 ∧ x4 = [] ∧ τ = τ9)) ∨ (i = .int .i64 3 ∧ Hid (x2 = L2 ∧ x3 = L3 ∧ x4 = L4 ∧ τ = τ10))) ∧ PkW w rb b A n c p0 l0 id fl A1 k1 c1 Q A2 n2 c2 x2 A3 n3 c3 x3 A4 n4 c4 x4 τ wr) (fun i _ => 3 - (intOf i).toNat)
  case atStart => exact ⟨none, 0, 0, [], none, 0, 0, [], none, 0, 0, [], τ7, Or.inl ⟨rfl, Lib.hid ⟨rfl, rfl, rfl, rfl⟩⟩, HS⟩
  case round =>
    clear HS
    obtain ⟨A2, n2, c2, x2, A3, n3, c3, x3, A4, n4, c4, x4, τ, hi, S⟩ := hrel
    have hbl := S.L.lt
    rcases hi with ⟨rfl, HH⟩ | ⟨rfl, HH⟩ | ⟨rfl, HH⟩ | ⟨rfl, HH⟩
    · have IX : ∀ w, (Instr.index 53 (.agg #[.int .i64 ((a1 : Nat) : Int), .int .i64 ((a2 : Nat) : Int), .int .i64 ((a3 : Nat) : Int)]) (.int .i64 0)).run Try.prog w = .ok (.int .i64 ((a1 : Nat) : Int)) w := fun w => by kernel_rfl
      have CR := psevR_any b a1 τ rb A n c wr S.h HN.out HC.out U4.out
      rw [HH.out.2.2.2] at CR
      simp only [E8.out] at CR
      go_wp2_with fail
      refine CR.mono ?_
      clear CR IX
      rintro e wa ⟨⟨A', n', c', rfl, R', B', v'⟩, gg, ha⟩
      have VV : Hid (n' ≤ 65535) := Lib.hid (Nat.le_trans v' U4.out)
      have LA := S.L.grownR gg nl.out.2.2.2.2.2.1
      have lf := LA.cold
      have m0 := LA.at 0 rfl
      clear v'
      go_wp2
      go_roundw
      case rel =>
        have v' := VV.out
        refine ⟨A', n', c', L2, A3, n3, c3, x3, A4, n4, c4, x4, τ8, Or.inr (Or.inl ⟨by go_num, Lib.hid ⟨rfl, HH.out.2.1, HH.out.2.2.1, rfl⟩⟩), ⟨LA.set 0 _, R'.apartS (fun ee => by have := B' l0 ee; omega) _, (S.r3.apartR (fun ee => by have := S.q3 rb ee; have := nl.out; omega) gg).apartS (fun ee => by have := S.q3 l0 ee; omega) _, (S.r4.apartR (fun ee => by have := S.q4 rb ee; have := nl.out; omega) gg).apartS (fun ee => by have := S.q4 l0 ee; omega) _, (fun g hg => by have := B' g hg; omega), S.q3, S.q4, ⟨v', S.v.2.1, S.v.2.2⟩, (S.P.grownR gg nl.out.2.2.2.2.1).other nl.out.2.2.1 _, (S.Y.grownR gg (by have := nl.out; omega)).other nl.out.2.2.2.1 _, (S.R.apartR AR1.out.1 gg).apartS AR1.out.2.1 _, grown_setN (S.g.trans gg) (by have := nl.out; omega) _, ha.setO nl.out.2.1 _⟩⟩
      case measure => simp [intOf]
    · have IX : ∀ w, (Instr.index 53 (.agg #[.int .i64 ((a1 : Nat) : Int), .int .i64 ((a2 : Nat) : Int), .int .i64 ((a3 : Nat) : Int)]) (.int .i64 1)).run Try.prog w = .ok (.int .i64 ((a2 : Nat) : Int)) w := fun w => by kernel_rfl
      have CR := psevR_any b a2 τ rb A n c wr S.h HN.out HC.out U5.out
      rw [HH.out.2.2.2] at CR
      simp only [E9.out] at CR
      go_wp2_with fail
      refine CR.mono ?_
      clear CR IX
      rintro e wa ⟨⟨A', n', c', rfl, R', B', v'⟩, gg, ha⟩
      have VV : Hid (n' ≤ 65535) := Lib.hid (Nat.le_trans v' U5.out)
      have LA := S.L.grownR gg nl.out.2.2.2.2.2.1
      have lf := LA.cold
      have m1 := LA.at 1 rfl
      clear v'
      go_wp2
      go_roundw
      case rel =>
        have v' := VV.out
        refine ⟨A2, n2, c2, x2, A', n', c', L3, A4, n4, c4, x4, τ9, Or.inr (Or.inr (Or.inl ⟨by go_num, Lib.hid ⟨HH.out.1, rfl, HH.out.2.2.1, rfl⟩⟩)), ⟨LA.set 1 _, (S.r2.apartR (fun ee => by have := S.q2 rb ee; have := nl.out; omega) gg).apartS (fun ee => by have := S.q2 l0 ee; omega) _, R'.apartS (fun ee => by have := B' l0 ee; omega) _, (S.r4.apartR (fun ee => by have := S.q4 rb ee; have := nl.out; omega) gg).apartS (fun ee => by have := S.q4 l0 ee; omega) _, S.q2, (fun g hg => by have := B' g hg; omega), S.q4, ⟨S.v.1, v', S.v.2.2⟩, (S.P.grownR gg nl.out.2.2.2.2.1).other nl.out.2.2.1 _, (S.Y.grownR gg (by have := nl.out; omega)).other nl.out.2.2.2.1 _, (S.R.apartR AR1.out.1 gg).apartS AR1.out.2.1 _, grown_setN (S.g.trans gg) (by have := nl.out; omega) _, ha.setO nl.out.2.1 _⟩⟩
      case measure => simp [intOf]
    · have IX : ∀ w, (Instr.index 53 (.agg #[.int .i64 ((a1 : Nat) : Int), .int .i64 ((a2 : Nat) : Int), .int .i64 ((a3 : Nat) : Int)]) (.int .i64 2)).run Try.prog w = .ok (.int .i64 ((a3 : Nat) : Int)) w := fun w => by kernel_rfl
      have CR := psevR_any b a3 τ rb A n c wr S.h HN.out HC.out U6.out
      rw [HH.out.2.2.2] at CR
      simp only [E10.out] at CR
      go_wp2_with fail
      refine CR.mono ?_
      clear CR IX
      rintro e wa ⟨⟨A', n', c', rfl, R', B', v'⟩, gg, ha⟩
      have VV : Hid (n' ≤ 65535) := Lib.hid (Nat.le_trans v' U6.out)
      have LA := S.L.grownR gg nl.out.2.2.2.2.2.1
      have lf := LA.cold
      have m2 := LA.at 2 rfl
      clear v'
      go_wp2
      go_roundw
      case rel =>
        have v' := VV.out
        refine ⟨A2, n2, c2, x2, A3, n3, c3, x3, A', n', c', L4, τ10, Or.inr (Or.inr (Or.inr ⟨by go_num, Lib.hid ⟨HH.out.1, HH.out.2.1, rfl, rfl⟩⟩)), ⟨LA.set 2 _, (S.r2.apartR (fun ee => by have := S.q2 rb ee; have := nl.out; omega) gg).apartS (fun ee => by have := S.q2 l0 ee; omega) _, (S.r3.apartR (fun ee => by have := S.q3 rb ee; have := nl.out; omega) gg).apartS (fun ee => by have := S.q3 l0 ee; omega) _, R'.apartS (fun ee => by have := B' l0 ee; omega) _, S.q2, S.q3, (fun g hg => by have := B' g hg; omega), ⟨S.v.1, S.v.2.1, v'⟩, (S.P.grownR gg nl.out.2.2.2.2.1).other nl.out.2.2.1 _, (S.Y.grownR gg (by have := nl.out; omega)).other nl.out.2.2.2.1 _, (S.R.apartR AR1.out.1 gg).apartS AR1.out.2.1 _, grown_setN (S.g.trans gg) (by have := nl.out; omega) _, ha.setO nl.out.2.1 _⟩⟩
      case measure => simp [intOf]
    · have L : Box wr.drew l0 _ _ := S.L
      have P : Box wr.drew p0 _ _ := S.P
      have Y : Box wr.drew w.heap.size _ _ := S.Y
      have g : w.grownBy wr.drew (some rb) := grown_dn S.g 1
      have hr : Rdr wr.drew rb b A n c τ := ⟨S.h.box, S.h.rd, S.h.le⟩
      have R1 : Rd wr.drew wr.drew.heap.size 3 A1 k1 (QC Q) := S.R
      have R2 : Rd wr.drew wr.drew.heap.size 5 A2 n2 (RC x2) := S.r2
      have R3 : Rd wr.drew wr.drew.heap.size 5 A3 n3 (RC x3) := S.r3
      have R4 : Rd wr.drew wr.drew.heap.size 5 A4 n4 (RC x4) := S.r4
      have Q2 : Hid (Apart A2 p0 ∧ Apart A2 w.heap.size) := Lib.hid ⟨fun ee => by have := S.q2 p0 ee; have := nl.out; omega, fun ee => by have := S.q2 w.heap.size ee; have := nl.out; omega⟩
      have Q3 : Hid (Apart A3 p0 ∧ Apart A3 w.heap.size) := Lib.hid ⟨fun ee => by have := S.q3 p0 ee; have := nl.out; omega, fun ee => by have := S.q3 w.heap.size ee; have := nl.out; omega⟩
      have Q4 : Hid (Apart A4 p0 ∧ Apart A4 w.heap.size) := Lib.hid ⟨fun ee => by have := S.q4 p0 ee; have := nl.out; omega, fun ee => by have := S.q4 w.heap.size ee; have := nl.out; omega⟩
      have VS := Lib.hid S.v
      have QG : Hid ((∀ g, blk A2 = some g → w.heap.size ≤ g) ∧ (∀ g, blk A3 = some g → w.heap.size ≤ g) ∧ (∀ g, blk A4 = some g → w.heap.size ≤ g)) := Lib.hid ⟨fun g hg => by have := S.q2 g hg; have := nl.out; omega, fun g hg => by have := S.q3 g hg; have := nl.out; omega, fun g hg => by have := S.q4 g hg; have := nl.out; omega⟩
      have l0' := L.at 0 rfl
      have l1' := L.at 1 rfl
      have l2' := L.at 2 rfl
      clear S hbl
      go_wp2
      refine wp_region_held_drew (S := (fun w' => w'.cell? ⟨l0, 0, none⟩ = some (.slice A2 n2 c2) ∧ w'.cell? ⟨l0, 1, none⟩ = some (.slice A3 n3 c3) ∧ w'.cell? ⟨l0, 2, none⟩ = some (.slice A4 n4 c4))) (by kernel_rfl) (by exact ⟨l0', l1', l2'⟩) (fun hHeld0 => ?_)
      generalize wr.drew = wd0 at *
      refine tk 0 38 rfl hHeld0 ?_
      refine tk 1 39 rfl hHeld0 ?_
      refine tk 2 40 rfl hHeld0 ?_
      refine tk 3 41 rfl hHeld0 ?_
      refine tk 4 42 rfl hHeld0 ?_
      refine tk 5 43 rfl hHeld0 ?_
      refine tk 6 44 rfl hHeld0 ?_
      refine wpAnyH_ready (rs := [7]) (by kernel_rfl) (by simp) (AllReadyH.cons (o := ⟨none, _, _, _, _, _⟩) rfl (fun K hK => ?_) AllReadyH.nil)
      have pc := P.at 3 rfl
      have pf := P.cold
      go_simp
      clear pc pf l0' l1' l2'
      replace L := L.other (b' := p0) (o := 3) (by have := nl.out; omega) (.slice A2 n2 c2)
      replace P := P.set 3 (.slice A2 n2 c2)
      replace Y := Y.other (b' := p0) (o := 3) (by have := nl.out; omega) (.slice A2 n2 c2)
      replace g := grown_setN (b := p0) (o := 3) g (by have := nl.out; omega) (.slice A2 n2 c2)
      replace hr := hr.setO (bb := p0) (o := 3) (by have := nl.out; omega) (.slice A2 n2 c2)
      replace R1 := R1.apartS (o := 3) AR1.out.2.2.1 (.slice A2 n2 c2)
      replace R2 := R2.apartS (o := 3) Q2.out.1 (.slice A2 n2 c2)
      replace R3 := R3.apartS (o := 3) Q3.out.1 (.slice A2 n2 c2)
      replace R4 := R4.apartS (o := 3) Q4.out.1 (.slice A2 n2 c2)
      have l0' := L.at 0 rfl
      have l1' := L.at 1 rfl
      have l2' := L.at 2 rfl
      go_simp
      refine hK.out _ _ (by exact ⟨l0', l1', l2'⟩) (fun hHeld1 => ?_)
      clear hK hHeld0 K
      try simp only [Act.put, sA, sB, sC]
      generalize wd0.setCell ⟨p0, 3, none⟩ (.slice A2 n2 c2) = wd1 at *
      refine tk 8 45 rfl hHeld1 ?_
      refine wpAnyH_ready (rs := [9]) (by kernel_rfl) (by simp) (AllReadyH.cons (o := ⟨none, _, _, _, _, _⟩) rfl (fun K hK => ?_) AllReadyH.nil)
      have pc := P.at 4 rfl
      have pf := P.cold
      go_simp
      clear pc pf l0' l1' l2'
      replace L := L.other (b' := p0) (o := 4) (by have := nl.out; omega) (.slice A3 n3 c3)
      replace P := P.set 4 (.slice A3 n3 c3)
      replace Y := Y.other (b' := p0) (o := 4) (by have := nl.out; omega) (.slice A3 n3 c3)
      replace g := grown_setN (b := p0) (o := 4) g (by have := nl.out; omega) (.slice A3 n3 c3)
      replace hr := hr.setO (bb := p0) (o := 4) (by have := nl.out; omega) (.slice A3 n3 c3)
      replace R1 := R1.apartS (o := 4) AR1.out.2.2.1 (.slice A3 n3 c3)
      replace R2 := R2.apartS (o := 4) Q2.out.1 (.slice A3 n3 c3)
      replace R3 := R3.apartS (o := 4) Q3.out.1 (.slice A3 n3 c3)
      replace R4 := R4.apartS (o := 4) Q4.out.1 (.slice A3 n3 c3)
      have l0' := L.at 0 rfl
      have l1' := L.at 1 rfl
      have l2' := L.at 2 rfl
      go_simp
      refine hK.out _ _ (by exact ⟨l0', l1', l2'⟩) (fun hHeld2 => ?_)
      clear hK hHeld1 K
      try simp only [Act.put, sA, sB, sC]
      generalize wd1.setCell ⟨p0, 4, none⟩ (.slice A3 n3 c3) = wd2 at *
      refine tk 10 46 rfl hHeld2 ?_
      refine wpAnyH_ready (rs := [11]) (by kernel_rfl) (by simp) (AllReadyH.cons (o := ⟨none, _, _, _, _, _⟩) rfl (fun K hK => ?_) AllReadyH.nil)
      have pc := P.at 5 rfl
      have pf := P.cold
      go_simp
      clear pc pf l0' l1' l2'
      replace L := L.other (b' := p0) (o := 5) (by have := nl.out; omega) (.slice A4 n4 c4)
      replace P := P.set 5 (.slice A4 n4 c4)
      replace Y := Y.other (b' := p0) (o := 5) (by have := nl.out; omega) (.slice A4 n4 c4)
      replace g := grown_setN (b := p0) (o := 5) g (by have := nl.out; omega) (.slice A4 n4 c4)
      replace hr := hr.setO (bb := p0) (o := 5) (by have := nl.out; omega) (.slice A4 n4 c4)
      replace R1 := R1.apartS (o := 5) AR1.out.2.2.1 (.slice A4 n4 c4)
      replace R2 := R2.apartS (o := 5) Q2.out.1 (.slice A4 n4 c4)
      replace R3 := R3.apartS (o := 5) Q3.out.1 (.slice A4 n4 c4)
      replace R4 := R4.apartS (o := 5) Q4.out.1 (.slice A4 n4 c4)
      have l0' := L.at 0 rfl
      have l1' := L.at 1 rfl
      have l2' := L.at 2 rfl
      go_simp
      refine hK.out _ _ (by exact ⟨l0', l1', l2'⟩) (fun hHeld3 => ?_)
      clear hK hHeld2 K
      try simp only [Act.put, sA, sB, sC]
      generalize wd2.setCell ⟨p0, 5, none⟩ (.slice A4 n4 c4) = wd3 at *
      refine wpAnyH_done (by kernel_rfl) ?_ _
      replace P : Box wd3 p0 25 #[.int .i64 ((id : Nat) : Int), .int .i64 ((fl : Nat) : Int), .slice A1 k1 c1, .slice A2 n2 c2, .slice A3 n3 c3, .slice A4 n4 c4] := P
      have p0 := P.at 0 rfl
      have y0 := Y.at 0 rfl
      have p1 := P.at 1 rfl
      have y1 := Y.at 1 rfl
      have p2 := P.at 2 rfl
      have y2 := Y.at 2 rfl
      have p3 := P.at 3 rfl
      have y3 := Y.at 3 rfl
      have p4 := P.at 4 rfl
      have y4 := Y.at 4 rfl
      have p5 := P.at 5 rfl
      have y5 := Y.at 5 rfl
      have yf := Y.cold
      have z := Y.lt
      have Y2 := ((((((Y.set 0 (.int .i64 ((id : Nat) : Int))).set 1 (.int .i64 ((fl : Nat) : Int))).set 2 (.slice A1 k1 c1)).set 3 (.slice A2 n2 c2)).set 4 (.slice A3 n3 c3)).set 5 (.slice A4 n4 c4))
      have G := (grown_setN (b := w.heap.size) (o := 5) (grown_setN (b := w.heap.size) (o := 4) (grown_setN (b := w.heap.size) (o := 3) (grown_setN (b := w.heap.size) (o := 2) (grown_setN (b := w.heap.size) (o := 1) (grown_setN (b := w.heap.size) (o := 0) g (Nat.le_refl _) (.int .i64 ((id : Nat) : Int))) (Nat.le_refl _) (.int .i64 ((fl : Nat) : Int))) (Nat.le_refl _) (.slice A1 k1 c1)) (Nat.le_refl _) (.slice A2 n2 c2)) (Nat.le_refl _) (.slice A3 n3 c3)) (Nat.le_refl _) (.slice A4 n4 c4))
      have HR := ((((((hr.setO (bb := w.heap.size) (o := 0) hrb (.int .i64 ((id : Nat) : Int))).setO (bb := w.heap.size) (o := 1) hrb (.int .i64 ((fl : Nat) : Int))).setO (bb := w.heap.size) (o := 2) hrb (.slice A1 k1 c1)).setO (bb := w.heap.size) (o := 3) hrb (.slice A2 n2 c2)).setO (bb := w.heap.size) (o := 4) hrb (.slice A3 n3 c3)).setO (bb := w.heap.size) (o := 5) hrb (.slice A4 n4 c4))
      have S1 := ((((((R1.apartS (o := 0) AR1.out.2.2.2.1 (.int .i64 ((id : Nat) : Int))).apartS (o := 1) AR1.out.2.2.2.1 (.int .i64 ((fl : Nat) : Int))).apartS (o := 2) AR1.out.2.2.2.1 (.slice A1 k1 c1)).apartS (o := 3) AR1.out.2.2.2.1 (.slice A2 n2 c2)).apartS (o := 4) AR1.out.2.2.2.1 (.slice A3 n3 c3)).apartS (o := 5) AR1.out.2.2.2.1 (.slice A4 n4 c4))
      have S2 := ((((((R2.apartS (o := 0) Q2.out.2 (.int .i64 ((id : Nat) : Int))).apartS (o := 1) Q2.out.2 (.int .i64 ((fl : Nat) : Int))).apartS (o := 2) Q2.out.2 (.slice A1 k1 c1)).apartS (o := 3) Q2.out.2 (.slice A2 n2 c2)).apartS (o := 4) Q2.out.2 (.slice A3 n3 c3)).apartS (o := 5) Q2.out.2 (.slice A4 n4 c4))
      have S3 := ((((((R3.apartS (o := 0) Q3.out.2 (.int .i64 ((id : Nat) : Int))).apartS (o := 1) Q3.out.2 (.int .i64 ((fl : Nat) : Int))).apartS (o := 2) Q3.out.2 (.slice A1 k1 c1)).apartS (o := 3) Q3.out.2 (.slice A2 n2 c2)).apartS (o := 4) Q3.out.2 (.slice A3 n3 c3)).apartS (o := 5) Q3.out.2 (.slice A4 n4 c4))
      have S4 := ((((((R4.apartS (o := 0) Q4.out.2 (.int .i64 ((id : Nat) : Int))).apartS (o := 1) Q4.out.2 (.int .i64 ((fl : Nat) : Int))).apartS (o := 2) Q4.out.2 (.slice A1 k1 c1)).apartS (o := 3) Q4.out.2 (.slice A2 n2 c2)).apartS (o := 4) Q4.out.2 (.slice A3 n3 c3)).apartS (o := 5) Q4.out.2 (.slice A4 n4 c4))
      have r0 := Y2.at 0 rfl
      have r1 := Y2.at 1 rfl
      have r2 := Y2.at 2 rfl
      have r3 := Y2.at 3 rfl
      have r4 := Y2.at 4 rfl
      have r5 := Y2.at 5 rfl
      obtain ⟨rfl, rfl, rfl, rfl⟩ := HH.out
      clear l0' l1' l2' L
      go_wp2
      refine bodyPost_ret (v := pval ⟨⟨(id : Nat), (fl : Nat), Q, x2, x3, x4⟩, A1, k1, c1, A2, n2, c2, A3, n3, c3, A4, n4, c4⟩) (by simp [results, Try.results36, go_sem, y0, y1, y2, y3, y4, y5, yf, z, pval]; try rfl) rfl ⟨⟨⟨⟨(id : Nat), (fl : Nat), Q, x2, x3, x4⟩, A1, k1, c1, A2, n2, c2, A3, n3, c3, A4, n4, c4⟩, rfl, rfl, ⟨S1, S2, S3, S4⟩, Nat.le_trans V1.out U3.out, VS.out.1, VS.out.2.1, VS.out.2.2, AR1.out.2.2.2.2, QG.out.1, QG.out.2.1, QG.out.2.2⟩, G, HR⟩
end Go.Proofs.Ytbioblknhfmelaa

